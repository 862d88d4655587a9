/- The law BwtRuns. -/
import Derived.Test.YtpafbgdbjambgaaMgBwtLawR7
namespace Go.Proofs.Ytpafbgdbjambgaa
open Go.RowKit
open Go.ChangeShapes Go.WideShapes Go.ChangeAt
open Go.Proofs.Ytpafbgdbjambgaa.SA
theorem BwtLawR_e24 : elemQ Try.prog 24 = some (3, 1) := by kernel_rfl
theorem BwtLawR_m24 : makeQ Try.prog 24 = some (3, 8, (.int .i64 0)) := by kernel_rfl
theorem BwtLawR_q24 : litQ Try.prog 24 = some (3, 1, 8, (.int .i64 0)) := by kernel_rfl
theorem BwtLawR_z3 : sizeQ Try.prog 3 = some 1 := by kernel_rfl
theorem BwtLawR_k9 : callable Try.prog 9 = true := by kernel_rfl
theorem BwtLawR_k11 : callable Try.prog 11 = true := by kernel_rfl
theorem BwtLawR_k13 : callable Try.prog 13 = true := by kernel_rfl
theorem BwtLawR_l24 : (elemQ Try.prog 24).isSome = true := by kernel_rfl
theorem BwtLawR_g3 : aggQ Try.prog 3 = some false := by kernel_rfl
theorem BwtLawR_k16 : callable Try.prog 16 = true := by kernel_rfl
theorem BwtLawR_l22 : (elemQ Try.prog 22).isSome = true := by kernel_rfl
theorem BwtLawR_k15 : callable Try.prog 15 = true := by kernel_rfl
def mk (n : Nat) (f : Nat → Nat) : List Nat := (List.range n).map f
theorem mk_len (n : Nat) (f : Nat → Nat) : (mk n f).length = n := by simp [mk]
theorem mk_get {n : Nat} {f : Nat → Nat} {i : Nat} (h : i < n) : (mk n f).getD i 0 = f i := by
  unfold mk
  rw [List.getD_eq_getElem?_getD, List.getElem?_map, List.getElem?_range h]
  rfl
theorem mk_lt {n : Nat} {f : Nat → Nat} (hn : n ≤ 512) (h : ∀ i, i < n → f i < n) : ∀ x ∈ mk n f, x < 512 := fun x hx => by
  obtain ⟨i, hi, rfl⟩ := List.mem_map.1 hx
  have := h i (List.mem_range.1 hi)
  omega
theorem mk_tab {w : World} {g n : Nat} {f : Nat → Nat} {fi : Nat → Int} (h : Blk w g 3 (tabI n fi)) (hf : ∀ i, i < n → fi i = (f i : Nat)) : RowOf iV w (some ⟨g, 0, none⟩) (cI (mk n f)) := by
  rw [tabI_congr hf] at h
  exact RowOf.blk h fun i hi => by
    have h1 : i < n := by simpa [mk, cI] using hi
    rw [tabI_at h1]
    simp [mk, cI]
theorem endT_mk {n : Nat} {f : Nat → Nat} {i : Nat} : endT (mk n f) i = if i < n then f i + 1 else 0 := by
  by_cases h : i < n
  · rw [if_pos h, endT_getD (by rw [mk_len]; exact h), mk_get h]
  · rw [if_neg h]
    unfold endT
    rw [dif_neg (by rw [mk_len]; exact h)]
theorem sa_mk {n : Nat} {f F : Nat → Nat} (hF : ∀ i, i < n → F i < n) (hp : ∀ a b, a < b → b < n → sl (n + 1) (fun i => if i < n then f i + 1 else 0) (F a) (F b)) : IsSA (mk n f) (mk n F) := by
  refine isSA_of (by rw [mk_len, mk_len]) (fun x hx => ?_) ?_
  · obtain ⟨i, hi, rfl⟩ := List.mem_map.1 hx
    rw [mk_len]
    exact hF i (List.mem_range.1 hi)
  · rw [mk_len, show endT (mk n f) = fun i => if i < n then f i + 1 else 0 from funext fun i => endT_mk]
    unfold mk
    rw [List.pairwise_map]
    refine (List.pairwise_lt_range (n := n)).imp_of_mem fun {a b} ha hb hab => hp a b hab (List.mem_range.1 hb)
theorem sa_same (n : Nat) : IsSA (mk n fun _ => 0) (mk n fun i => n - 1 - i) := sa_mk (fun i hi => by omega) fun a b hab hb => by
  refine ⟨a + 1, fun m hm => ?_, by omega, by omega, ?_⟩
  · show (if _ then _ else _) = (if _ then _ else _)
    rw [if_pos (by omega), if_pos (by omega)]
  · show (if _ then _ else _) < (if _ then _ else _)
    rw [if_neg (by omega), if_pos (by omega)]
    omega
theorem sa_up (n : Nat) : IsSA (mk n fun i => i) (mk n fun i => i) := sa_mk (fun i hi => hi) fun a b hab hb => by
  refine ⟨0, fun m hm => absurd hm (by omega), by omega, by omega, ?_⟩
  show (if _ then _ else _) < (if _ then _ else _)
  rw [if_pos (by omega), if_pos (by omega)]
  omega
theorem sa_down (n : Nat) : IsSA (mk n fun i => n - 1 - i) (mk n fun i => n - 1 - i) := sa_mk (fun i hi => by omega) fun a b hab hb => by
  refine ⟨0, fun m hm => absurd hm (by omega), by omega, by omega, ?_⟩
  show (if _ then _ else _) < (if _ then _ else _)
  rw [if_pos (by omega), if_pos (by omega)]
  omega
theorem upd_to {k : Nat} {f : Nat → Nat} {fi : Nat → Int} {x : Int} (h : ∀ i, i < k → fi i = (f i : Nat)) (hx : x = (f k : Nat)) : ∀ i, i < k + 1 → upd fi k x i = (f i : Nat) := fun i hi => by
  rcases Nat.eq_or_lt_of_le (Nat.le_of_lt_succ hi) with e | e
  · subst e; rw [upd_same, hx]
  · rw [upd_ne _ _ (by omega)]; exact h i e
theorem mk_all {n i : Nat} : (mk n fun _ => 0).getD i 0 = 0 := by
  by_cases h : i < n
  · rw [mk_get h]
  · rw [List.getD_eq_getElem?_getD, List.getElem?_eq_none (by rw [mk_len]; omega)]; rfl
theorem bw_at {L F B : List Nat} {a r : Nat} (hS : IsSA L F) (hb : IsBw L B a) (hr : r < L.length) (h0 : F.getD r 0 = 0) : a = r + 1 := by
  have := (isSA_getD hS hr).2
  rw [h0] at this
  rw [hb.at0, this]
theorem bw_zero {L B : List Nat} {a : Nat} (hb : IsBw L B a) (h0 : 0 < L.length) : B.getD 0 0 = L.getD (L.length - 1) 0 := by
  have := hb.sym L.length h0 (Nat.le_refl _)
  rw [rank_n, sy_zero] at this
  exact this
theorem bw_same {n : Nat} (h : 0 < n) : IsBw (mk n fun _ => 0) (mk n fun _ => 0) n := by
  refine ⟨rfl, ?_, fun i h1 h2 => by rw [mk_all, mk_all]⟩
  have h2 := (isSA_getD (sa_same n) (show n - 1 < (mk n fun _ => 0).length by rw [mk_len]; omega)).2
  rw [mk_get (by omega), Nat.sub_self] at h2
  rw [h2]
  omega
theorem make_nat (A : Option Addr) (c n : Nat) (L : List Nat) (w : World) (hr : RowOf iV w A (cI L)) (hn : n = L.length) (hl : n ≤ 131072) (hlt : ∀ x ∈ L, x < 512) : Rt Try.prog 9 [.slice A n c] w fun v w' => (∃ B a A' c', IsBw L B a ∧ v = .tuple #[.slice A' B.length c', .int .i64 (a : Nat), .int .i64 0] ∧ RowOf iV w' A' (cI B)) ∧ From w w' := by
  refine (make_rt A c n (cI L) w hr (by rw [List.length_map]; exact hn) hl).mono fun v w' h => ?_
  obtain ⟨h, hF⟩ := h
  refine ⟨?_, hF⟩
  rcases h with ⟨a, _⟩ | ⟨L2, B, a, A', c', e, _, hb, rfl, ho⟩
  · rw [cI, all_nat hlt] at a; cases a
  · obtain rfl := cI_inj e
    exact ⟨B, a, A', c', hb, rfl, (RowOf.own ho).2⟩
theorem make_nil (w : World) : Rt Try.prog 9 [.slice none 0 0] w fun v w' => (∃ A' c', v = .tuple #[.slice A' 0 c', .int .i64 0, .int .i64 0]) ∧ From w w' := by
  refine (make_nat none 0 0 [] w RowOf.nil rfl (by omega) (by simp)).mono fun v w' h => ?_
  obtain ⟨⟨B, a, A', c', hb, rfl, _⟩, hF⟩ := h
  obtain ⟨rfl, rfl⟩ := bw_nil.uniq hb
  exact ⟨⟨A', c', rfl⟩, hF⟩
theorem back_nil0 (w : World) : Rt Try.prog 16 [.int .i64 0, .slice none 0 0] w fun v w' => (∃ A' c', v = .tuple #[.slice A' 0 c', .int .i64 0]) ∧ From w w' := by
  refine (back_good none 0 0 0 [] [] w RowOf.nil rfl (by omega) (by simp) bw_nil).mono fun v w' h => ?_
  obtain ⟨⟨A', c', rfl, _⟩, hF⟩ := h
  exact ⟨⟨A', c', rfl⟩, hF⟩
theorem back_nil1 (w : World) : Rt Try.prog 16 [.int .i64 1, .slice none 0 0] w fun v w' => v = .tuple #[.slice none 0 0, .int .i64 1] ∧ From w w' := by
  refine (back_rt 1 none 0 0 [] w RowOf.nil rfl (by omega)).mono fun v w' h => ?_
  obtain ⟨h, hF⟩ := h
  refine ⟨?_, hF⟩
  rcases h with ⟨B, a, A', h1, h2, h3, h4, _⟩ | ⟨_, rfl⟩
  · omega
  · rfl
set_option maxRecDepth 100000 in
set_option maxHeartbeats 4000000 in
theorem runs_law (A : Option Addr) (c n : Nat) (w : World) :
    Rt Try.prog 6 [.slice A n c] w (fun v w' => v = .bool true ∧ From w w') := by
  have hz0 := n
  clear hz0
  refine enter (n := 176) Try.func6 rfl rfl rfl ?_
  refine cd_seq ?_
  refine cd_region ?_
  refine st_val (ro_assign (v := .bool _) rfl) ?_
  refine st_nil ?_
  refine nx_then ?_
  refine cd_seq ?_
  refine cd_seq ?_
  refine cd_region ?_
  refine st_val (ro_assign (v := .int _ _) rfl) ?_
  refine st_nil ?_
  refine nx_then ?_
  refine cd_block ?_
  refine cd_loop (G := Nat) [2, 4, 5, 6, 7, 8, 9, 10, 11, 12, 13, 14, 15, 16, 24, 25, 26, 27, 28, 29, 30, 31, 32, 33, 34, 35, 36, 37, 38, 39, 40, 41, 42, 43, 44, 45, 46, 47, 48, 49, 50, 51, 52, 53, 54, 55, 56, 57, 58, 59, 60, 61, 62, 63, 64, 65, 66, 67, 68, 69, 70, 71, 72, 73, 74, 75, 76, 77, 78, 79, 80, 81, 82, 83, 84, 85, 86, 87, 88, 89, 90, 91, 92, 93, 94, 95, 96, 97, 98, 99, 100, 101, 102, 103, 104, 105, 106, 107, 108, 109, 110, 111, 112, 113, 114, 115, 116, 117, 118, 119, 120, 121, 122, 123, 124, 125, 126, 127] (fun n => [(3, .int .i64 (n : Nat))]) (fun n w' => 0 < n ∧ n ≤ 200 ∧ From w w') (fun n => 200 - n) (1) ⟨rfl, trivial⟩ ?_ ?_
  · exact ⟨by omega, by omega, From.rfl_⟩
  rintro n ρ1 w1 ⟨hn0, hn, hB⟩
  refine cd_seq ?_
  refine cd_seq ?_
  refine cd_region ?_
  refine st_val (ro_move (v := .int _ _) rfl) ?_
  refine st_val (ro_lss rfl rfl) ?_
  refine st_nil ?_
  refine nx_then ?_
  refine cd_cond rfl (fun Q2 => ?_) (fun Q2 => ?_)
  · (try first | replace Q2 := bn_t Q2 | replace Q2 := bn_f Q2)
    (try first | replace Q2 := bx_t Q2 | replace Q2 := bx_f Q2 | replace Q2 := be_t Q2 | replace Q2 := be_f Q2 | replace Q2 := of_decide_eq_true Q2 | replace Q2 := of_decide_eq_false Q2)
    first
     | (exfalso; first | omega | contradiction | (cases Q2; done))
     | skip
       refine cd_skip ?_
       refine nx_then ?_
       refine cd_seq ?_
       refine cd_block ?_
       refine cd_seq ?_
       apply cd_makes [(0, 31, fun g => .int .i64 (n : Nat)), (1, 32, fun g => .slice (some ⟨g 1, 0, none⟩) n n), (2, 33, fun g => .int .i64 (n : Nat)), (3, 34, fun g => .slice (some ⟨g 3, 0, none⟩) n n), (4, 35, fun g => .int .i64 (n : Nat)), (5, 36, fun g => .slice (some ⟨g 5, 0, none⟩) n n), (6, 4, fun g => .slice (some ⟨g 1, 0, none⟩) n n), (7, 5, fun g => .slice (some ⟨g 3, 0, none⟩) n n), (8, 6, fun g => .slice (some ⟨g 5, 0, none⟩) n n)] [(1, 3, tabI n fun _ => 0), (3, 3, tabI n fun _ => 0), (5, 3, tabI n fun _ => 0)] (by kernel_rfl) (by kernel_rfl) rfl rfl rfl
       case hstep =>
        refine ⟨?_, ?_⟩
        · rintro S L' w3 g hU hV hI hM hC hS ⟨-⟩
          have e3 := InvG.out hI (t := 3) rfl
          exact stepG_ro [(3, _)] hU hI hM (.head _) rfl rfl (by kernel_rfl) ⟨e3, trivial⟩ (ro_move (v := .int _ _) rfl)
        refine ⟨?_, ?_⟩
        · rintro S L' w4 g hU hV hI hM hC hS ⟨d0, d0, -⟩
          have e31 := InvG.get hI (i := 0) (.head _) d0
          exact stepG_make [(31, _)] hU hV hI hM hS (.tail _ (.head _)) (.head _) rfl (by kernel_rfl) ⟨e31, trivial⟩ ((ro_make BwtLawR_m24 rfl rfl rfl (by omega) (by omega))) (From.rfl_.new _) (by rw [← tabI_zero]; exact Blk.new _ _ _) ⟨fun _ => rfl, fun h => absurd h (by rw [hS]; exact Bool.noConfusion), fun _ => rfl, fun _ => rfl, fun _ => rfl, fun _ => rfl, fun h => absurd h (by rw [closed_old hC (j := 6) rfl (by kernel_rfl) hS]; exact Bool.noConfusion), fun _ => rfl, fun _ => rfl, trivial⟩
        refine ⟨?_, ?_⟩
        · rintro S L' w5 g hU hV hI hM hC hS ⟨-⟩
          have e3 := InvG.out hI (t := 3) rfl
          exact stepG_ro [(3, _)] hU hI hM (.tail _ (.tail _ (.head _))) rfl rfl (by kernel_rfl) ⟨e3, trivial⟩ (ro_move (v := .int _ _) rfl)
        refine ⟨?_, ?_⟩
        · rintro S L' w6 g hU hV hI hM hC hS ⟨d2, d2, -⟩
          have e33 := InvG.get hI (i := 2) (.tail _ (.tail _ (.head _))) d2
          exact stepG_make [(33, _)] hU hV hI hM hS (.tail _ (.tail _ (.tail _ (.head _)))) (.tail _ (.head _)) rfl (by kernel_rfl) ⟨e33, trivial⟩ ((ro_make BwtLawR_m24 rfl rfl rfl (by omega) (by omega))) (From.rfl_.new _) (by rw [← tabI_zero]; exact Blk.new _ _ _) ⟨fun _ => rfl, fun _ => rfl, fun _ => rfl, fun h => absurd h (by rw [hS]; exact Bool.noConfusion), fun _ => rfl, fun _ => rfl, fun _ => rfl, fun h => absurd h (by rw [closed_old hC (j := 7) rfl (by kernel_rfl) hS]; exact Bool.noConfusion), fun _ => rfl, trivial⟩
        refine ⟨?_, ?_⟩
        · rintro S L' w7 g hU hV hI hM hC hS ⟨-⟩
          have e3 := InvG.out hI (t := 3) rfl
          exact stepG_ro [(3, _)] hU hI hM (.tail _ (.tail _ (.tail _ (.tail _ (.head _))))) rfl rfl (by kernel_rfl) ⟨e3, trivial⟩ (ro_move (v := .int _ _) rfl)
        refine ⟨?_, ?_⟩
        · rintro S L' w8 g hU hV hI hM hC hS ⟨d4, d4, -⟩
          have e35 := InvG.get hI (i := 4) (.tail _ (.tail _ (.tail _ (.tail _ (.head _))))) d4
          exact stepG_make [(35, _)] hU hV hI hM hS (.tail _ (.tail _ (.tail _ (.tail _ (.tail _ (.head _)))))) (.tail _ (.tail _ (.head _))) rfl (by kernel_rfl) ⟨e35, trivial⟩ ((ro_make BwtLawR_m24 rfl rfl rfl (by omega) (by omega))) (From.rfl_.new _) (by rw [← tabI_zero]; exact Blk.new _ _ _) ⟨fun _ => rfl, fun _ => rfl, fun _ => rfl, fun _ => rfl, fun _ => rfl, fun h => absurd h (by rw [hS]; exact Bool.noConfusion), fun _ => rfl, fun _ => rfl, fun h => absurd h (by rw [closed_old hC (j := 8) rfl (by kernel_rfl) hS]; exact Bool.noConfusion), trivial⟩
        refine ⟨?_, ?_⟩
        · rintro S L' w9 g hU hV hI hM hC hS ⟨d1, d0, d1, -, -, -, -, -⟩
          have e32 := InvG.get hI (i := 1) (.tail _ (.head _)) d1
          exact stepG_ro [(32, _)] hU hI hM (.tail _ (.tail _ (.tail _ (.tail _ (.tail _ (.tail _ (.head _))))))) rfl rfl (by kernel_rfl) ⟨e32, trivial⟩ (ro_assign (v := .slice _ _ _) rfl)
        refine ⟨?_, ?_⟩
        · rintro S L' w10 g hU hV hI hM hC hS ⟨d3, d6, d0, d1, d2, d3, -, -, d6, -⟩
          have e34 := InvG.get hI (i := 3) (.tail _ (.tail _ (.tail _ (.head _)))) d3
          exact stepG_ro [(34, _)] hU hI hM (.tail _ (.tail _ (.tail _ (.tail _ (.tail _ (.tail _ (.tail _ (.head _)))))))) rfl rfl (by kernel_rfl) ⟨e34, trivial⟩ (ro_assign (v := .slice _ _ _) rfl)
        refine ⟨?_, ?_⟩
        · rintro S L' w11 g hU hV hI hM hC hS ⟨d5, d7, d0, d1, d2, d3, d4, d5, d6, d7, -⟩
          have e36 := InvG.get hI (i := 5) (.tail _ (.tail _ (.tail _ (.tail _ (.tail _ (.head _)))))) d5
          exact stepG_ro [(36, _)] hU hI hM (.tail _ (.tail _ (.tail _ (.tail _ (.tail _ (.tail _ (.tail _ (.tail _ (.head _))))))))) rfl rfl (by kernel_rfl) ⟨e36, trivial⟩ (ro_assign (v := .slice _ _ _) rfl)
        exact trivial
       case hend =>
        intro g1 w12 hM12
        have hF12 := hM12.from_
        have hb1 : Blk w12 (g1 1) 3 (tabI n fun _ => 0) := hM12.blk _ (.head _) rfl
        have hb3 : Blk w12 (g1 3) 3 (tabI n fun _ => 0) := hM12.blk _ (.tail _ (.head _)) rfl
        have hb5 : Blk w12 (g1 5) 3 (tabI n fun _ => 0) := hM12.blk _ (.tail _ (.tail _ (.head _))) rfl
        have hg1 : w.heap.size ≤ g1 1 := Nat.le_trans hB.size (hM12.ge _ (.head _) rfl)
        have hg3 : w.heap.size ≤ g1 3 := Nat.le_trans hB.size (hM12.ge _ (.tail _ (.head _)) rfl)
        have hg5 : w.heap.size ≤ g1 5 := Nat.le_trans hB.size (hM12.ge _ (.tail _ (.tail _ (.head _))) rfl)
        have hn13 : g1 1 ≠ g1 3 := hM12.ne _ (.head _) _ (.tail _ (.head _)) (show (1 : Nat) ≠ 3 by decide) rfl rfl
        have hn15 : g1 1 ≠ g1 5 := hM12.ne _ (.head _) _ (.tail _ (.tail _ (.head _))) (show (1 : Nat) ≠ 5 by decide) rfl rfl
        have hn35 : g1 3 ≠ g1 5 := hM12.ne _ (.tail _ (.head _)) _ (.tail _ (.tail _ (.head _))) (show (3 : Nat) ≠ 5 by decide) rfl rfl
        clear hM12
        refine nx_then ?_
        refine cd_seq ?_
        refine cd_seq ?_
        refine cd_region ?_
        refine st_val (ro_assign (v := .int _ _) rfl) ?_
        refine st_nil ?_
        refine nx_then ?_
        refine cd_block ?_
        refine cd_loop (G := Nat × (Nat → Int) × (Nat → Int)) [37, 38, 39, 40, 41, 42, 43, 44, 45, 46, 47, 48, 49, 50, 51, 52] (fun (k, _, _) => [(7, .int .i64 (k : Nat))]) (fun (k, fu, fd) w' => k ≤ n ∧ (∀ i, i < k → fu i = ((i : Nat) : Int)) ∧ (∀ i, i < k → fd i = ((n - 1 - i : Nat) : Int)) ∧ Blk w' (g1 1) 3 (tabI n fun _ => 0) ∧ Blk w' (g1 3) 3 (tabI n fu) ∧ Blk w' (g1 5) 3 (tabI n fd) ∧ From w w') (fun (k, _, _) => n - k) ((0, fun _ => 0, fun _ => 0)) ⟨rfl, trivial⟩ ?_ ?_
        · exact ⟨Nat.zero_le _, fun i h => absurd h (by omega), fun i h => absurd h (by omega), hb1.from_ From.rfl_, hb3.from_ From.rfl_, hb5.from_ From.rfl_, (hB).next hF12⟩
        rintro ⟨k, fu, fd⟩ ρ13 w13 ⟨hk, hfu, hfd, hS, hU, hD, hB⟩
        refine cd_seq ?_
        refine cd_seq ?_
        refine cd_region ?_
        refine st_val (ro_move (v := .int _ _) rfl) ?_
        refine st_val (ro_move (v := .int _ _) rfl) ?_
        refine st_val (ro_lss rfl rfl) ?_
        refine st_nil ?_
        refine nx_then ?_
        refine cd_cond rfl (fun Q14 => ?_) (fun Q14 => ?_)
        · (try first | replace Q14 := bn_t Q14 | replace Q14 := bn_f Q14)
          (try first | replace Q14 := bx_t Q14 | replace Q14 := bx_f Q14 | replace Q14 := be_t Q14 | replace Q14 := be_f Q14 | replace Q14 := of_decide_eq_true Q14 | replace Q14 := of_decide_eq_false Q14)
          first
           | (exfalso; first | omega | contradiction | (cases Q14; done))
           | skip
             refine cd_skip ?_
             refine nx_then ?_
             refine cd_seq ?_
             refine cd_block ?_
             refine cd_seq ?_
             refine cd_region ?_
             refine st_val (ro_move (v := .slice _ _ _) rfl) ?_
             refine st_val (ro_move (v := .int _ _) rfl) ?_
             refine st_val (ro_move (v := .int _ _) rfl) ?_
             refine st_val (ro_indexAddr0 BwtLawR_e24 rfl rfl (by omega)) ?_
             refine st_put (v := .int _ _) BwtLawR_z3 rfl rfl rfl (hU) (by rw [tabI_size]; omega) ?_
             intro w15 O8 P8
             have hS8 := hS.only O8 hn13
             have hD8 := hD.only O8 (Ne.symm hn35)
             have P8b : Blk w15 (g1 3) 3 (tabI n (upd fu k ((k : Nat) : Int))) := by rw [← tabI_set]; exact P8
             refine st_nil ?_
             refine nx_then ?_
             refine cd_region ?_
             refine st_val (ro_move (v := .slice _ _ _) rfl) ?_
             refine st_val (ro_move (v := .int _ _) rfl) ?_
             refine st_val (ro_move (v := .int _ _) rfl) ?_
             refine st_val (ro_subN (b := 1) rfl rfl (by omega)) ?_
             refine st_val (ro_move (v := .int _ _) rfl) ?_
             refine st_val (ro_subN rfl rfl (by omega)) ?_
             refine st_val (ro_indexAddr0 BwtLawR_e24 rfl rfl (by omega)) ?_
             refine st_put (v := .int _ _) BwtLawR_z3 rfl rfl rfl (hD8) (by rw [tabI_size]; omega) ?_
             intro w16 O9 P9
             have hS9 := hS8.only O9 hn15
             have hU9 := P8b.only O9 hn35
             have P9b : Blk w16 (g1 5) 3 (tabI n (upd fd k ((n - 1 - k : Nat) : Int))) := by rw [← tabI_set]; exact P9
             refine st_nil ?_
             refine nx_block ?_
             refine nx_then ?_
             refine cd_region ?_
             refine st_val (ro_move (v := .int _ _) rfl) ?_
             refine st_val (ro_add64 rfl rfl (by omega)) ?_
             refine st_val (ro_assign (v := .int _ _) rfl) ?_
             refine st_nil ?_
             refine nx_cut ((k + 1, upd fu k ((k : Nat) : Int), upd fd k ((n - 1 - k : Nat) : Int))) ⟨(by first | rfl | (refine int_eq ?_; omega)), trivial⟩ (by (iterate 34 refine agr_cons rfl ?_); exact agr_rfl) ⟨?_, ?_⟩
             · exact ⟨by omega, upd_to (f := fun i => i) hfu rfl, upd_to (f := fun i => n - 1 - i) hfd rfl, hS9.from_ From.rfl_, hU9.from_ From.rfl_, P9b.from_ From.rfl_, ((hB.only O8 (hg3)).only O9 (hg5))⟩
             · show n - (k + 1) < n - k; omega
        (try first | replace Q14 := bn_t Q14 | replace Q14 := bn_f Q14)
        (try first | replace Q14 := bx_t Q14 | replace Q14 := bx_f Q14 | replace Q14 := be_t Q14 | replace Q14 := be_f Q14 | replace Q14 := of_decide_eq_true Q14 | replace Q14 := of_decide_eq_false Q14)
        obtain rfl : n = k := by omega
        first
         | (exfalso; first | omega | contradiction | (cases Q14; done))
         | skip
           refine cd_exit ?_
           refine ex_then ?_
           refine ex_then ?_
           refine ex_block ?_
           refine nx_then ?_
           refine cd_seq ?_
           refine cd_region ?_
           refine st_val (ro_move (v := .slice _ _ _) rfl) ?_
           refine st_call BwtLawR_k9 (make_nat _ n n (mk n (fun _ => 0)) _ (mk_tab (hS.from_ From.rfl_) fun i hi => rfl) (mk_len _ _).symm (by omega) (mk_lt (by omega) fun i hi => by omega)) ?_
           rintro v55 w17 ⟨⟨B55, a55, A55, c55, hb55, rfl, hr55⟩, E55⟩
           refine st_val (ro_move (v := .tuple _) rfl) ?_
           refine st_val (ro_extract rfl rfl) ?_
           refine st_val (ro_extract rfl rfl) ?_
           refine st_val (ro_extract rfl rfl) ?_
           refine st_val (ro_assign (v := .slice _ _ _) rfl) ?_
           refine st_val (ro_assign (v := .int _ _) rfl) ?_
           refine st_val (ro_assign (v := .int _ _) rfl) ?_
           refine st_nil ?_
           refine nx_then ?_
           refine cd_seq ?_
           refine cd_region ?_
           refine st_val (ro_move (v := .slice _ _ _) rfl) ?_
           refine st_call BwtLawR_k9 (make_nat _ n n (mk n (fun i => i)) _ (mk_tab (hU.from_ (From.rfl_.next E55)) (fun i hi => hfu i (by omega))) (mk_len _ _).symm (by omega) (mk_lt (by omega) fun i hi => by omega)) ?_
           rintro v61 w18 ⟨⟨B61, a61, A61, c61, hb61, rfl, hr61⟩, E61⟩
           refine st_val (ro_move (v := .tuple _) rfl) ?_
           refine st_val (ro_extract rfl rfl) ?_
           refine st_val (ro_extract rfl rfl) ?_
           refine st_val (ro_extract rfl rfl) ?_
           refine st_val (ro_assign (v := .slice _ _ _) rfl) ?_
           refine st_val (ro_assign (v := .int _ _) rfl) ?_
           refine st_val (ro_assign (v := .int _ _) rfl) ?_
           refine st_nil ?_
           refine nx_then ?_
           refine cd_seq ?_
           refine cd_region ?_
           refine st_val (ro_move (v := .slice _ _ _) rfl) ?_
           have hS67 := hS.from_ ((From.rfl_.next E55).next E61)
           refine st_call BwtLawR_k9 (make_nat _ n n (mk n (fun i => n - 1 - i)) _ (mk_tab (hD.from_ ((From.rfl_.next E55).next E61)) (fun i hi => hfd i (by omega))) (mk_len _ _).symm (by omega) (mk_lt (by omega) fun i hi => by omega)) ?_
           rintro v67 w19 ⟨⟨B67, a67, A67, c67, hb67, rfl, hr67⟩, E67⟩
           obtain ⟨rfl, rfl⟩ := (bw_same hn0).uniq hb55
           have ha61 := bw_at (r := 0) (sa_up n) hb61 (by rw [mk_len]; omega) (mk_get (by omega))
           have ha67 := bw_at (r := n - 1) (sa_down n) hb67 (by rw [mk_len]; omega) (by rw [mk_get (by omega)]; omega)
           have hl61 := hb61.len
           have hl67 := hb67.len
           have hz61 := bw_zero hb61 (by rw [mk_len]; omega)
           have hz67 := bw_zero hb67 (by rw [mk_len]; omega)
           rw [mk_len] at hl61 hl67 hz61 hz67
           rw [mk_get (by omega)] at hz61 hz67
           have hls : (mk n fun _ => 0).length = n := mk_len _ _
           obtain ⟨bb, ob, rfl, hcb9⟩ := rowD (hr61.from_ E67) (by omega)
           obtain ⟨bd, od, rfl, hcd9⟩ := rowD hr67 (by omega)
           have hcb := hcb9 0 (by omega)
           have hcd := hcd9 0 (by omega)
           refine st_val (ro_move (v := .tuple _) rfl) ?_
           refine st_val (ro_extract rfl rfl) ?_
           refine st_val (ro_extract rfl rfl) ?_
           refine st_val (ro_extract rfl rfl) ?_
           refine st_val (ro_assign (v := .slice _ _ _) rfl) ?_
           refine st_val (ro_assign (v := .int _ _) rfl) ?_
           refine st_val (ro_assign (v := .int _ _) rfl) ?_
           refine st_nil ?_
           refine nx_then ?_
           refine cd_seq ?_
           refine cd_seq ?_
           refine cd_region ?_
           refine st_val (ro_move (v := .int _ _) rfl) ?_
           refine st_call BwtLawR_k11 (num_any _ _) ?_
           rintro v72 w20 ⟨rfl, rfl⟩
           refine st_val (ro_neq rfl rfl) ?_
           refine st_val (ro_move (v := .bool _) rfl) ?_
           refine st_split (t := 74) rfl (fun Q21 => ?_) (fun Q21 => ?_)
           · (try first | replace Q21 := bn_t Q21 | replace Q21 := bn_f Q21)
             (try first | replace Q21 := bx_t Q21 | replace Q21 := bx_f Q21 | replace Q21 := be_t Q21 | replace Q21 := be_f Q21 | replace Q21 := of_decide_eq_true Q21 | replace Q21 := of_decide_eq_false Q21)
             first
              | (exfalso; first | omega | contradiction | (cases Q21; done))
              | skip
                refine st_gno rfl rfl ?_
                refine st_gno rfl rfl ?_
                refine st_gno rfl rfl ?_
                refine st_val (ro_pickT (v := .bool _) rfl rfl) ?_
                refine st_val (ro_move (v := .bool _) rfl) ?_
                refine st_gno rfl rfl ?_
                refine st_gno rfl rfl ?_
                refine st_gno rfl rfl ?_
                refine st_val (ro_pickT (v := .bool _) rfl rfl) ?_
                refine st_val (ro_move (v := .bool _) rfl) ?_
                refine st_gno rfl rfl ?_
                refine st_gno rfl rfl ?_
                refine st_gno rfl rfl ?_
                refine st_val (ro_pickT (v := .bool _) rfl rfl) ?_
                refine st_val (ro_move (v := .bool _) rfl) ?_
                refine st_gno rfl rfl ?_
                refine st_gno rfl rfl ?_
                refine st_val (ro_pickT (v := .bool _) rfl rfl) ?_
                refine st_val (ro_move (v := .bool _) rfl) ?_
                refine st_gno rfl rfl ?_
                refine st_gno rfl rfl ?_
                refine st_gno rfl rfl ?_
                refine st_val (ro_pickT (v := .bool _) rfl rfl) ?_
                refine st_val (ro_move (v := .bool _) rfl) ?_
                refine st_gno rfl rfl ?_
                refine st_gno rfl rfl ?_
                refine st_gno rfl rfl ?_
                refine st_gno rfl rfl ?_
                refine st_val (ro_pickT (v := .bool _) rfl rfl) ?_
                refine st_val (ro_move (v := .bool _) rfl) ?_
                refine st_gno rfl rfl ?_
                refine st_gno rfl rfl ?_
                refine st_gno rfl rfl ?_
                refine st_gno rfl rfl ?_
                refine st_val (ro_pickT (v := .bool _) rfl rfl) ?_
                refine st_val (ro_move (v := .bool _) rfl) ?_
                refine st_gno rfl rfl ?_
                refine st_gno rfl rfl ?_
                refine st_gno rfl rfl ?_
                refine st_gno rfl rfl ?_
                refine st_val (ro_pickT (v := .bool _) rfl rfl) ?_
                refine st_nil ?_
                refine nx_then ?_
                refine cd_condT rfl ?_
                refine cd_seq ?_
                refine cd_region ?_
                refine st_val (ro_assign (v := .bool _) rfl) ?_
                refine st_nil ?_
                refine nx_then ?_
                refine cd_ret ?_
                refine rt_then ?_
                refine rt_block ?_
                refine rt_then ?_
                refine rt_then ?_
                refine rt_block ?_
                refine rt_then ?_
                refine res1 (v := .bool _) rfl rfl ?_
                exact ⟨rfl, (((hB.next E55).next E61).next E67)⟩
           · (try first | replace Q21 := bn_t Q21 | replace Q21 := bn_f Q21)
             (try first | replace Q21 := bx_t Q21 | replace Q21 := bx_f Q21 | replace Q21 := be_t Q21 | replace Q21 := be_f Q21 | replace Q21 := of_decide_eq_true Q21 | replace Q21 := of_decide_eq_false Q21)
             first
              | (exfalso; first | omega | contradiction | (cases Q21; done))
              | skip
                refine st_unguard rfl ?_
                refine st_val (ro_move (v := .int _ _) rfl) ?_
                refine st_unguard rfl ?_
                refine st_call BwtLawR_k11 (num_any _ _) ?_
                rintro v76 w22 ⟨rfl, rfl⟩
                refine st_unguard rfl ?_
                refine st_val (ro_neq rfl rfl) ?_
                refine st_val (ro_pickF (v := .bool _) rfl rfl) ?_
                refine st_val (ro_move (v := .bool _) rfl) ?_
                refine st_split (t := 79) rfl (fun Q23 => ?_) (fun Q23 => ?_)
                · (try first | replace Q23 := bn_t Q23 | replace Q23 := bn_f Q23)
                  (try first | replace Q23 := bx_t Q23 | replace Q23 := bx_f Q23 | replace Q23 := be_t Q23 | replace Q23 := be_f Q23 | replace Q23 := of_decide_eq_true Q23 | replace Q23 := of_decide_eq_false Q23)
                  first
                   | (exfalso; first | omega | contradiction | (cases Q23; done))
                   | skip
                     refine st_gno rfl rfl ?_
                     refine st_gno rfl rfl ?_
                     refine st_gno rfl rfl ?_
                     refine st_val (ro_pickT (v := .bool _) rfl rfl) ?_
                     refine st_val (ro_move (v := .bool _) rfl) ?_
                     refine st_gno rfl rfl ?_
                     refine st_gno rfl rfl ?_
                     refine st_gno rfl rfl ?_
                     refine st_val (ro_pickT (v := .bool _) rfl rfl) ?_
                     refine st_val (ro_move (v := .bool _) rfl) ?_
                     refine st_gno rfl rfl ?_
                     refine st_gno rfl rfl ?_
                     refine st_val (ro_pickT (v := .bool _) rfl rfl) ?_
                     refine st_val (ro_move (v := .bool _) rfl) ?_
                     refine st_gno rfl rfl ?_
                     refine st_gno rfl rfl ?_
                     refine st_gno rfl rfl ?_
                     refine st_val (ro_pickT (v := .bool _) rfl rfl) ?_
                     refine st_val (ro_move (v := .bool _) rfl) ?_
                     refine st_gno rfl rfl ?_
                     refine st_gno rfl rfl ?_
                     refine st_gno rfl rfl ?_
                     refine st_gno rfl rfl ?_
                     refine st_val (ro_pickT (v := .bool _) rfl rfl) ?_
                     refine st_val (ro_move (v := .bool _) rfl) ?_
                     refine st_gno rfl rfl ?_
                     refine st_gno rfl rfl ?_
                     refine st_gno rfl rfl ?_
                     refine st_gno rfl rfl ?_
                     refine st_val (ro_pickT (v := .bool _) rfl rfl) ?_
                     refine st_val (ro_move (v := .bool _) rfl) ?_
                     refine st_gno rfl rfl ?_
                     refine st_gno rfl rfl ?_
                     refine st_gno rfl rfl ?_
                     refine st_gno rfl rfl ?_
                     refine st_val (ro_pickT (v := .bool _) rfl rfl) ?_
                     refine st_nil ?_
                     refine nx_then ?_
                     refine cd_condT rfl ?_
                     refine cd_seq ?_
                     refine cd_region ?_
                     refine st_val (ro_assign (v := .bool _) rfl) ?_
                     refine st_nil ?_
                     refine nx_then ?_
                     refine cd_ret ?_
                     refine rt_then ?_
                     refine rt_block ?_
                     refine rt_then ?_
                     refine rt_then ?_
                     refine rt_block ?_
                     refine rt_then ?_
                     refine res1 (v := .bool _) rfl rfl ?_
                     exact ⟨rfl, (((hB.next E55).next E61).next E67)⟩
                · (try first | replace Q23 := bn_t Q23 | replace Q23 := bn_f Q23)
                  (try first | replace Q23 := bx_t Q23 | replace Q23 := bx_f Q23 | replace Q23 := be_t Q23 | replace Q23 := be_f Q23 | replace Q23 := of_decide_eq_true Q23 | replace Q23 := of_decide_eq_false Q23)
                  first
                   | (exfalso; first | omega | contradiction | (cases Q23; done))
                   | skip
                     refine st_unguard rfl ?_
                     refine st_val (ro_move (v := .int _ _) rfl) ?_
                     refine st_unguard rfl ?_
                     refine st_call BwtLawR_k11 (num_any _ _) ?_
                     rintro v81 w24 ⟨rfl, rfl⟩
                     refine st_unguard rfl ?_
                     refine st_val (ro_neq rfl rfl) ?_
                     refine st_val (ro_pickF (v := .bool _) rfl rfl) ?_
                     refine st_val (ro_move (v := .bool _) rfl) ?_
                     refine st_split (t := 84) rfl (fun Q25 => ?_) (fun Q25 => ?_)
                     · (try first | replace Q25 := bn_t Q25 | replace Q25 := bn_f Q25)
                       (try first | replace Q25 := bx_t Q25 | replace Q25 := bx_f Q25 | replace Q25 := be_t Q25 | replace Q25 := be_f Q25 | replace Q25 := of_decide_eq_true Q25 | replace Q25 := of_decide_eq_false Q25)
                       first
                        | (exfalso; first | omega | contradiction | (cases Q25; done))
                        | skip
                          refine st_gno rfl rfl ?_
                          refine st_gno rfl rfl ?_
                          refine st_gno rfl rfl ?_
                          refine st_val (ro_pickT (v := .bool _) rfl rfl) ?_
                          refine st_val (ro_move (v := .bool _) rfl) ?_
                          refine st_gno rfl rfl ?_
                          refine st_gno rfl rfl ?_
                          refine st_val (ro_pickT (v := .bool _) rfl rfl) ?_
                          refine st_val (ro_move (v := .bool _) rfl) ?_
                          refine st_gno rfl rfl ?_
                          refine st_gno rfl rfl ?_
                          refine st_gno rfl rfl ?_
                          refine st_val (ro_pickT (v := .bool _) rfl rfl) ?_
                          refine st_val (ro_move (v := .bool _) rfl) ?_
                          refine st_gno rfl rfl ?_
                          refine st_gno rfl rfl ?_
                          refine st_gno rfl rfl ?_
                          refine st_gno rfl rfl ?_
                          refine st_val (ro_pickT (v := .bool _) rfl rfl) ?_
                          refine st_val (ro_move (v := .bool _) rfl) ?_
                          refine st_gno rfl rfl ?_
                          refine st_gno rfl rfl ?_
                          refine st_gno rfl rfl ?_
                          refine st_gno rfl rfl ?_
                          refine st_val (ro_pickT (v := .bool _) rfl rfl) ?_
                          refine st_val (ro_move (v := .bool _) rfl) ?_
                          refine st_gno rfl rfl ?_
                          refine st_gno rfl rfl ?_
                          refine st_gno rfl rfl ?_
                          refine st_gno rfl rfl ?_
                          refine st_val (ro_pickT (v := .bool _) rfl rfl) ?_
                          refine st_nil ?_
                          refine nx_then ?_
                          refine cd_condT rfl ?_
                          refine cd_seq ?_
                          refine cd_region ?_
                          refine st_val (ro_assign (v := .bool _) rfl) ?_
                          refine st_nil ?_
                          refine nx_then ?_
                          refine cd_ret ?_
                          refine rt_then ?_
                          refine rt_block ?_
                          refine rt_then ?_
                          refine rt_then ?_
                          refine rt_block ?_
                          refine rt_then ?_
                          refine res1 (v := .bool _) rfl rfl ?_
                          exact ⟨rfl, (((hB.next E55).next E61).next E67)⟩
                     · (try first | replace Q25 := bn_t Q25 | replace Q25 := bn_f Q25)
                       (try first | replace Q25 := bx_t Q25 | replace Q25 := bx_f Q25 | replace Q25 := be_t Q25 | replace Q25 := be_f Q25 | replace Q25 := of_decide_eq_true Q25 | replace Q25 := of_decide_eq_false Q25)
                       first
                        | (exfalso; first | omega | contradiction | (cases Q25; done))
                        | skip
                          refine st_unguard rfl ?_
                          refine st_val (ro_move (v := .int _ _) rfl) ?_
                          refine st_unguard rfl ?_
                          refine st_val (ro_move (v := .int _ _) rfl) ?_
                          refine st_unguard rfl ?_
                          refine st_val (ro_neq rfl rfl) ?_
                          refine st_val (ro_pickF (v := .bool _) rfl rfl) ?_
                          refine st_val (ro_move (v := .bool _) rfl) ?_
                          refine st_split (t := 89) rfl (fun Q26 => ?_) (fun Q26 => ?_)
                          · (try first | replace Q26 := bn_t Q26 | replace Q26 := bn_f Q26)
                            (try first | replace Q26 := bx_t Q26 | replace Q26 := bx_f Q26 | replace Q26 := be_t Q26 | replace Q26 := be_f Q26 | replace Q26 := of_decide_eq_true Q26 | replace Q26 := of_decide_eq_false Q26)
                            first
                             | (exfalso; first | omega | contradiction | (cases Q26; done))
                             | skip
                               refine st_gno rfl rfl ?_
                               refine st_gno rfl rfl ?_
                               refine st_val (ro_pickT (v := .bool _) rfl rfl) ?_
                               refine st_val (ro_move (v := .bool _) rfl) ?_
                               refine st_gno rfl rfl ?_
                               refine st_gno rfl rfl ?_
                               refine st_gno rfl rfl ?_
                               refine st_val (ro_pickT (v := .bool _) rfl rfl) ?_
                               refine st_val (ro_move (v := .bool _) rfl) ?_
                               refine st_gno rfl rfl ?_
                               refine st_gno rfl rfl ?_
                               refine st_gno rfl rfl ?_
                               refine st_gno rfl rfl ?_
                               refine st_val (ro_pickT (v := .bool _) rfl rfl) ?_
                               refine st_val (ro_move (v := .bool _) rfl) ?_
                               refine st_gno rfl rfl ?_
                               refine st_gno rfl rfl ?_
                               refine st_gno rfl rfl ?_
                               refine st_gno rfl rfl ?_
                               refine st_val (ro_pickT (v := .bool _) rfl rfl) ?_
                               refine st_val (ro_move (v := .bool _) rfl) ?_
                               refine st_gno rfl rfl ?_
                               refine st_gno rfl rfl ?_
                               refine st_gno rfl rfl ?_
                               refine st_gno rfl rfl ?_
                               refine st_val (ro_pickT (v := .bool _) rfl rfl) ?_
                               refine st_nil ?_
                               refine nx_then ?_
                               refine cd_condT rfl ?_
                               refine cd_seq ?_
                               refine cd_region ?_
                               refine st_val (ro_assign (v := .bool _) rfl) ?_
                               refine st_nil ?_
                               refine nx_then ?_
                               refine cd_ret ?_
                               refine rt_then ?_
                               refine rt_block ?_
                               refine rt_then ?_
                               refine rt_then ?_
                               refine rt_block ?_
                               refine rt_then ?_
                               refine res1 (v := .bool _) rfl rfl ?_
                               exact ⟨rfl, (((hB.next E55).next E61).next E67)⟩
                          · (try first | replace Q26 := bn_t Q26 | replace Q26 := bn_f Q26)
                            (try first | replace Q26 := bx_t Q26 | replace Q26 := bx_f Q26 | replace Q26 := be_t Q26 | replace Q26 := be_f Q26 | replace Q26 := of_decide_eq_true Q26 | replace Q26 := of_decide_eq_false Q26)
                            first
                             | (exfalso; first | omega | contradiction | (cases Q26; done))
                             | skip
                               refine st_unguard rfl ?_
                               refine st_val (ro_move (v := .int _ _) rfl) ?_
                               refine st_unguard rfl ?_
                               refine st_val (ro_neq rfl rfl) ?_
                               refine st_val (ro_pickF (v := .bool _) rfl rfl) ?_
                               refine st_val (ro_move (v := .bool _) rfl) ?_
                               refine st_split (t := 93) rfl (fun Q27 => ?_) (fun Q27 => ?_)
                               · (try first | replace Q27 := bn_t Q27 | replace Q27 := bn_f Q27)
                                 (try first | replace Q27 := bx_t Q27 | replace Q27 := bx_f Q27 | replace Q27 := be_t Q27 | replace Q27 := be_f Q27 | replace Q27 := of_decide_eq_true Q27 | replace Q27 := of_decide_eq_false Q27)
                                 first
                                  | (exfalso; first | omega | contradiction | (cases Q27; done))
                                  | skip
                                    refine st_gno rfl rfl ?_
                                    refine st_gno rfl rfl ?_
                                    refine st_gno rfl rfl ?_
                                    refine st_val (ro_pickT (v := .bool _) rfl rfl) ?_
                                    refine st_val (ro_move (v := .bool _) rfl) ?_
                                    refine st_gno rfl rfl ?_
                                    refine st_gno rfl rfl ?_
                                    refine st_gno rfl rfl ?_
                                    refine st_gno rfl rfl ?_
                                    refine st_val (ro_pickT (v := .bool _) rfl rfl) ?_
                                    refine st_val (ro_move (v := .bool _) rfl) ?_
                                    refine st_gno rfl rfl ?_
                                    refine st_gno rfl rfl ?_
                                    refine st_gno rfl rfl ?_
                                    refine st_gno rfl rfl ?_
                                    refine st_val (ro_pickT (v := .bool _) rfl rfl) ?_
                                    refine st_val (ro_move (v := .bool _) rfl) ?_
                                    refine st_gno rfl rfl ?_
                                    refine st_gno rfl rfl ?_
                                    refine st_gno rfl rfl ?_
                                    refine st_gno rfl rfl ?_
                                    refine st_val (ro_pickT (v := .bool _) rfl rfl) ?_
                                    refine st_nil ?_
                                    refine nx_then ?_
                                    refine cd_condT rfl ?_
                                    refine cd_seq ?_
                                    refine cd_region ?_
                                    refine st_val (ro_assign (v := .bool _) rfl) ?_
                                    refine st_nil ?_
                                    refine nx_then ?_
                                    refine cd_ret ?_
                                    refine rt_then ?_
                                    refine rt_block ?_
                                    refine rt_then ?_
                                    refine rt_then ?_
                                    refine rt_block ?_
                                    refine rt_then ?_
                                    refine res1 (v := .bool _) rfl rfl ?_
                                    exact ⟨rfl, (((hB.next E55).next E61).next E67)⟩
                               · (try first | replace Q27 := bn_t Q27 | replace Q27 := bn_f Q27)
                                 (try first | replace Q27 := bx_t Q27 | replace Q27 := bx_f Q27 | replace Q27 := be_t Q27 | replace Q27 := be_f Q27 | replace Q27 := of_decide_eq_true Q27 | replace Q27 := of_decide_eq_false Q27)
                                 first
                                  | (exfalso; first | omega | contradiction | (cases Q27; done))
                                  | skip
                                    refine st_unguard rfl ?_
                                    refine st_val (ro_move (v := .int _ _) rfl) ?_
                                    refine st_unguard rfl ?_
                                    refine st_val (ro_move (v := .int _ _) rfl) ?_
                                    refine st_unguard rfl ?_
                                    refine st_val (ro_neq rfl rfl) ?_
                                    refine st_val (ro_pickF (v := .bool _) rfl rfl) ?_
                                    refine st_val (ro_move (v := .bool _) rfl) ?_
                                    refine st_split (t := 98) rfl (fun Q28 => ?_) (fun Q28 => ?_)
                                    · (try first | replace Q28 := bn_t Q28 | replace Q28 := bn_f Q28)
                                      (try first | replace Q28 := bx_t Q28 | replace Q28 := bx_f Q28 | replace Q28 := be_t Q28 | replace Q28 := be_f Q28 | replace Q28 := of_decide_eq_true Q28 | replace Q28 := of_decide_eq_false Q28)
                                      first
                                       | (exfalso; first | omega | contradiction | (cases Q28; done))
                                       | skip
                                         refine st_gno rfl rfl ?_
                                         refine st_gno rfl rfl ?_
                                         refine st_gno rfl rfl ?_
                                         refine st_gno rfl rfl ?_
                                         refine st_val (ro_pickT (v := .bool _) rfl rfl) ?_
                                         refine st_val (ro_move (v := .bool _) rfl) ?_
                                         refine st_gno rfl rfl ?_
                                         refine st_gno rfl rfl ?_
                                         refine st_gno rfl rfl ?_
                                         refine st_gno rfl rfl ?_
                                         refine st_val (ro_pickT (v := .bool _) rfl rfl) ?_
                                         refine st_val (ro_move (v := .bool _) rfl) ?_
                                         refine st_gno rfl rfl ?_
                                         refine st_gno rfl rfl ?_
                                         refine st_gno rfl rfl ?_
                                         refine st_gno rfl rfl ?_
                                         refine st_val (ro_pickT (v := .bool _) rfl rfl) ?_
                                         refine st_nil ?_
                                         refine nx_then ?_
                                         refine cd_condT rfl ?_
                                         refine cd_seq ?_
                                         refine cd_region ?_
                                         refine st_val (ro_assign (v := .bool _) rfl) ?_
                                         refine st_nil ?_
                                         refine nx_then ?_
                                         refine cd_ret ?_
                                         refine rt_then ?_
                                         refine rt_block ?_
                                         refine rt_then ?_
                                         refine rt_then ?_
                                         refine rt_block ?_
                                         refine rt_then ?_
                                         refine res1 (v := .bool _) rfl rfl ?_
                                         exact ⟨rfl, (((hB.next E55).next E61).next E67)⟩
                                    · (try first | replace Q28 := bn_t Q28 | replace Q28 := bn_f Q28)
                                      (try first | replace Q28 := bx_t Q28 | replace Q28 := bx_f Q28 | replace Q28 := be_t Q28 | replace Q28 := be_f Q28 | replace Q28 := of_decide_eq_true Q28 | replace Q28 := of_decide_eq_false Q28)
                                      first
                                       | (exfalso; first | omega | contradiction | (cases Q28; done))
                                       | skip
                                         refine st_unguard rfl ?_
                                         refine st_val (ro_move (v := .slice _ _ _) rfl) ?_
                                         refine st_unguard rfl ?_
                                         refine st_val (ro_move (v := .slice _ _ _) rfl) ?_
                                         refine st_unguard rfl ?_
                                         refine st_call BwtLawR_k13 (eq_same A55 (some ⟨g1 1, 0, none⟩) c55 n (mk n fun _ => 0).length n (cI (mk n fun _ => 0)) _ (hr55.from_ (E61.next E67)) (mk_tab ((hS67.from_ E67).from_ From.rfl_) fun i hi => rfl) (by rw [List.length_map]) (by rw [List.length_map, mk_len]) (by rw [mk_len]; omega)) ?_
                                         rintro v101 w29 ⟨rfl, E101⟩
                                         refine st_unguard rfl ?_
                                         refine st_val (ro_not rfl) ?_
                                         refine st_val (ro_pickF (v := .bool _) rfl rfl) ?_
                                         refine st_val (ro_move (v := .bool _) rfl) ?_
                                         refine st_split (t := 104) rfl (fun Q30 => ?_) (fun Q30 => ?_)
                                         · (try first | replace Q30 := bn_t Q30 | replace Q30 := bn_f Q30)
                                           (try first | replace Q30 := bx_t Q30 | replace Q30 := bx_f Q30 | replace Q30 := be_t Q30 | replace Q30 := be_f Q30 | replace Q30 := of_decide_eq_true Q30 | replace Q30 := of_decide_eq_false Q30)
                                           first
                                            | (exfalso; first | omega | contradiction | (cases Q30; done))
                                            | skip
                                              refine st_gno rfl rfl ?_
                                              refine st_gno rfl rfl ?_
                                              refine st_gno rfl rfl ?_
                                              refine st_gno rfl rfl ?_
                                              refine st_val (ro_pickT (v := .bool _) rfl rfl) ?_
                                              refine st_val (ro_move (v := .bool _) rfl) ?_
                                              refine st_gno rfl rfl ?_
                                              refine st_gno rfl rfl ?_
                                              refine st_gno rfl rfl ?_
                                              refine st_gno rfl rfl ?_
                                              refine st_val (ro_pickT (v := .bool _) rfl rfl) ?_
                                              refine st_nil ?_
                                              refine nx_then ?_
                                              refine cd_condT rfl ?_
                                              refine cd_seq ?_
                                              refine cd_region ?_
                                              refine st_val (ro_assign (v := .bool _) rfl) ?_
                                              refine st_nil ?_
                                              refine nx_then ?_
                                              refine cd_ret ?_
                                              refine rt_then ?_
                                              refine rt_block ?_
                                              refine rt_then ?_
                                              refine rt_then ?_
                                              refine rt_block ?_
                                              refine rt_then ?_
                                              refine res1 (v := .bool _) rfl rfl ?_
                                              exact ⟨rfl, ((((hB.next E55).next E61).next E67).next E101)⟩
                                         · (try first | replace Q30 := bn_t Q30 | replace Q30 := bn_f Q30)
                                           (try first | replace Q30 := bx_t Q30 | replace Q30 := bx_f Q30 | replace Q30 := be_t Q30 | replace Q30 := be_f Q30 | replace Q30 := of_decide_eq_true Q30 | replace Q30 := of_decide_eq_false Q30)
                                           first
                                            | (exfalso; first | omega | contradiction | (cases Q30; done))
                                            | skip
                                              refine st_unguard rfl ?_
                                              refine st_val (ro_move (v := .slice _ _ _) rfl) ?_
                                              refine st_unguard rfl ?_
                                              refine st_val (ro_len BwtLawR_l24 rfl) ?_
                                              refine st_unguard rfl ?_
                                              refine st_val (ro_move (v := .int _ _) rfl) ?_
                                              refine st_unguard rfl ?_
                                              refine st_val (ro_neq rfl rfl) ?_
                                              refine st_val (ro_pickF (v := .bool _) rfl rfl) ?_
                                              refine st_val (ro_move (v := .bool _) rfl) ?_
                                              refine st_split (t := 110) rfl (fun Q31 => ?_) (fun Q31 => ?_)
                                              · (try first | replace Q31 := bn_t Q31 | replace Q31 := bn_f Q31)
                                                (try first | replace Q31 := bx_t Q31 | replace Q31 := bx_f Q31 | replace Q31 := be_t Q31 | replace Q31 := be_f Q31 | replace Q31 := of_decide_eq_true Q31 | replace Q31 := of_decide_eq_false Q31)
                                                first
                                                 | (exfalso; first | omega | contradiction | (cases Q31; done))
                                                 | skip
                                                   refine st_gno rfl rfl ?_
                                                   refine st_gno rfl rfl ?_
                                                   refine st_gno rfl rfl ?_
                                                   refine st_gno rfl rfl ?_
                                                   refine st_val (ro_pickT (v := .bool _) rfl rfl) ?_
                                                   refine st_nil ?_
                                                   refine nx_then ?_
                                                   refine cd_condT rfl ?_
                                                   refine cd_seq ?_
                                                   refine cd_region ?_
                                                   refine st_val (ro_assign (v := .bool _) rfl) ?_
                                                   refine st_nil ?_
                                                   refine nx_then ?_
                                                   refine cd_ret ?_
                                                   refine rt_then ?_
                                                   refine rt_block ?_
                                                   refine rt_then ?_
                                                   refine rt_then ?_
                                                   refine rt_block ?_
                                                   refine rt_then ?_
                                                   refine res1 (v := .bool _) rfl rfl ?_
                                                   exact ⟨rfl, ((((hB.next E55).next E61).next E67).next E101)⟩
                                              · (try first | replace Q31 := bn_t Q31 | replace Q31 := bn_f Q31)
                                                (try first | replace Q31 := bx_t Q31 | replace Q31 := bx_f Q31 | replace Q31 := be_t Q31 | replace Q31 := be_f Q31 | replace Q31 := of_decide_eq_true Q31 | replace Q31 := of_decide_eq_false Q31)
                                                first
                                                 | (exfalso; first | omega | contradiction | (cases Q31; done))
                                                 | skip
                                                   refine st_unguard rfl ?_
                                                   refine st_val (ro_move (v := .slice _ _ _) rfl) ?_
                                                   refine st_unguard rfl ?_
                                                   refine st_val (ro_len BwtLawR_l24 rfl) ?_
                                                   refine st_unguard rfl ?_
                                                   refine st_val (ro_move (v := .int _ _) rfl) ?_
                                                   refine st_unguard rfl ?_
                                                   refine st_val (ro_neq rfl rfl) ?_
                                                   refine st_val (ro_pickF (v := .bool _) rfl rfl) ?_
                                                   refine st_nil ?_
                                                   refine nx_then ?_
                                                   refine cd_cond rfl (fun Q32 => ?_) (fun Q32 => ?_)
                                                   · (try first | replace Q32 := bn_t Q32 | replace Q32 := bn_f Q32)
                                                     (try first | replace Q32 := bx_t Q32 | replace Q32 := bx_f Q32 | replace Q32 := be_t Q32 | replace Q32 := be_f Q32 | replace Q32 := of_decide_eq_true Q32 | replace Q32 := of_decide_eq_false Q32)
                                                     first
                                                      | (exfalso; first | omega | contradiction | (cases Q32; done))
                                                      | skip
                                                        refine cd_seq ?_
                                                        refine cd_region ?_
                                                        refine st_val (ro_assign (v := .bool _) rfl) ?_
                                                        refine st_nil ?_
                                                        refine nx_then ?_
                                                        refine cd_ret ?_
                                                        refine rt_then ?_
                                                        refine rt_block ?_
                                                        refine rt_then ?_
                                                        refine rt_then ?_
                                                        refine rt_block ?_
                                                        refine rt_then ?_
                                                        refine res1 (v := .bool _) rfl rfl ?_
                                                        exact ⟨rfl, ((((hB.next E55).next E61).next E67).next E101)⟩
                                                   (try first | replace Q32 := bn_t Q32 | replace Q32 := bn_f Q32)
                                                   (try first | replace Q32 := bx_t Q32 | replace Q32 := bx_f Q32 | replace Q32 := be_t Q32 | replace Q32 := be_f Q32 | replace Q32 := of_decide_eq_true Q32 | replace Q32 := of_decide_eq_false Q32)
                                                   first
                                                    | (exfalso; first | omega | contradiction | (cases Q32; done))
                                                    | skip
                                                      refine cd_skip ?_
                                                      refine nx_then ?_
                                                      refine cd_seq ?_
                                                      refine cd_region ?_
                                                      refine st_val (ro_move (v := .slice _ _ _) rfl) ?_
                                                      refine st_val (ro_indexAddr1 (i := 0) BwtLawR_e24 rfl rfl (by omega)) ?_
                                                      refine st_val (ro_load BwtLawR_g3 rfl (by exact cellF (From.rfl_.next E101) hcb)) ?_
                                                      refine st_val (ro_move (v := .int _ _) rfl) ?_
                                                      refine st_val (ro_subN (b := 1) rfl rfl (by omega)) ?_
                                                      refine st_val (ro_neq rfl rfl) ?_
                                                      refine st_val (ro_move (v := .bool _) rfl) ?_
                                                      refine st_split (t := 122) rfl (fun Q33 => ?_) (fun Q33 => ?_)
                                                      · (try first | replace Q33 := bn_t Q33 | replace Q33 := bn_f Q33)
                                                        (try first | replace Q33 := bx_t Q33 | replace Q33 := bx_f Q33 | replace Q33 := be_t Q33 | replace Q33 := be_f Q33 | replace Q33 := of_decide_eq_true Q33 | replace Q33 := of_decide_eq_false Q33)
                                                        first
                                                         | (exfalso; first | omega | contradiction | (cases Q33; done))
                                                         | skip
                                                           refine st_gno rfl rfl ?_
                                                           refine st_gno rfl rfl ?_
                                                           refine st_gno rfl rfl ?_
                                                           refine st_gno rfl rfl ?_
                                                           refine st_val (ro_pickT (v := .bool _) rfl rfl) ?_
                                                           refine st_nil ?_
                                                           refine nx_then ?_
                                                           refine cd_condT rfl ?_
                                                           refine cd_seq ?_
                                                           refine cd_region ?_
                                                           refine st_val (ro_assign (v := .bool _) rfl) ?_
                                                           refine st_nil ?_
                                                           refine nx_then ?_
                                                           refine cd_ret ?_
                                                           refine rt_block ?_
                                                           refine rt_then ?_
                                                           refine rt_then ?_
                                                           refine rt_block ?_
                                                           refine rt_then ?_
                                                           refine res1 (v := .bool _) rfl rfl ?_
                                                           exact ⟨rfl, ((((hB.next E55).next E61).next E67).next E101)⟩
                                                      · (try first | replace Q33 := bn_t Q33 | replace Q33 := bn_f Q33)
                                                        (try first | replace Q33 := bx_t Q33 | replace Q33 := bx_f Q33 | replace Q33 := be_t Q33 | replace Q33 := be_f Q33 | replace Q33 := of_decide_eq_true Q33 | replace Q33 := of_decide_eq_false Q33)
                                                        first
                                                         | (exfalso; first | omega | contradiction | (cases Q33; done))
                                                         | skip
                                                           refine st_unguard rfl ?_
                                                           refine st_val (ro_move (v := .slice _ _ _) rfl) ?_
                                                           refine st_unguard rfl ?_
                                                           refine st_val (ro_indexAddr1 (i := 0) BwtLawR_e24 rfl rfl (by omega)) ?_
                                                           refine st_unguard rfl ?_
                                                           refine st_val (ro_load BwtLawR_g3 rfl (by exact cellF (From.rfl_.next E101) hcd)) ?_
                                                           refine st_unguard rfl ?_
                                                           refine st_val (ro_neq rfl rfl) ?_
                                                           refine st_val (ro_pickF (v := .bool _) rfl rfl) ?_
                                                           refine st_nil ?_
                                                           refine nx_then ?_
                                                           refine cd_cond rfl (fun Q34 => ?_) (fun Q34 => ?_)
                                                           · (try first | replace Q34 := bn_t Q34 | replace Q34 := bn_f Q34)
                                                             (try first | replace Q34 := bx_t Q34 | replace Q34 := bx_f Q34 | replace Q34 := be_t Q34 | replace Q34 := be_f Q34 | replace Q34 := of_decide_eq_true Q34 | replace Q34 := of_decide_eq_false Q34)
                                                             first
                                                              | (exfalso; first | omega | contradiction | (cases Q34; done))
                                                              | skip
                                                                refine cd_seq ?_
                                                                refine cd_region ?_
                                                                refine st_val (ro_assign (v := .bool _) rfl) ?_
                                                                refine st_nil ?_
                                                                refine nx_then ?_
                                                                refine cd_ret ?_
                                                                refine rt_block ?_
                                                                refine rt_then ?_
                                                                refine rt_then ?_
                                                                refine rt_block ?_
                                                                refine rt_then ?_
                                                                refine res1 (v := .bool _) rfl rfl ?_
                                                                exact ⟨rfl, ((((hB.next E55).next E61).next E67).next E101)⟩
                                                           (try first | replace Q34 := bn_t Q34 | replace Q34 := bn_f Q34)
                                                           (try first | replace Q34 := bx_t Q34 | replace Q34 := bx_f Q34 | replace Q34 := be_t Q34 | replace Q34 := be_f Q34 | replace Q34 := of_decide_eq_true Q34 | replace Q34 := of_decide_eq_false Q34)
                                                           first
                                                            | (exfalso; first | omega | contradiction | (cases Q34; done))
                                                            | skip
                                                              refine cd_skip ?_
                                                              refine nx_block ?_
                                                              refine nx_then ?_
                                                              refine cd_region ?_
                                                              refine st_val (ro_move (v := .int _ _) rfl) ?_
                                                              refine st_val (ro_addN (b := 1) rfl rfl (by omega)) ?_
                                                              refine st_val (ro_move (v := .int _ _) rfl) ?_
                                                              refine st_val (ro_quoN (b := 4) rfl rfl (by omega)) ?_
                                                              refine st_val (ro_addN rfl rfl (by omega)) ?_
                                                              refine st_val (ro_assign (v := .int _ _) rfl) ?_
                                                              refine st_nil ?_
                                                              refine nx_cut (n + 1 + n / 4) ⟨(by first | rfl | (refine int_eq ?_; omega)), trivial⟩ (by (iterate 250 refine agr_cons rfl ?_); exact agr_rfl) ⟨?_, ?_⟩
                                                              · exact ⟨by omega, by omega, ((((hB.next E55).next E61).next E67).next E101)⟩
                                                              · show 200 - (n + 1 + n / 4) < 200 - n; omega
  (try first | replace Q2 := bn_t Q2 | replace Q2 := bn_f Q2)
  (try first | replace Q2 := bx_t Q2 | replace Q2 := bx_f Q2 | replace Q2 := be_t Q2 | replace Q2 := be_f Q2 | replace Q2 := of_decide_eq_true Q2 | replace Q2 := of_decide_eq_false Q2)
  first
   | (exfalso; first | omega | contradiction | (cases Q2; done))
   | skip
     refine cd_exit ?_
     refine ex_then ?_
     refine ex_then ?_
     refine ex_block ?_
     refine nx_then ?_
     refine cd_seq ?_
     refine cd_region ?_
     refine st_call BwtLawR_k9 (make_nil _) ?_
     rintro v129 w35 ⟨⟨A129, c129, rfl⟩, E129⟩
     refine st_val (ro_move (v := .tuple _) rfl) ?_
     refine st_val (ro_extract rfl rfl) ?_
     refine st_val (ro_extract rfl rfl) ?_
     refine st_val (ro_extract rfl rfl) ?_
     refine st_val (ro_assign (v := .slice _ _ _) rfl) ?_
     refine st_val (ro_assign (v := .int _ _) rfl) ?_
     refine st_val (ro_assign (v := .int _ _) rfl) ?_
     refine st_nil ?_
     refine nx_then ?_
     refine cd_seq ?_
     refine cd_region ?_
     refine st_call BwtLawR_k16 (back_nil0 _) ?_
     rintro v134 w36 ⟨⟨A134, c134, rfl⟩, E134⟩
     refine st_val (ro_move (v := .tuple _) rfl) ?_
     refine st_val (ro_extract rfl rfl) ?_
     refine st_val (ro_extract rfl rfl) ?_
     refine st_val (ro_assign (v := .slice _ _ _) rfl) ?_
     refine st_val (ro_assign (v := .int _ _) rfl) ?_
     refine st_nil ?_
     refine nx_then ?_
     refine cd_seq ?_
     refine cd_region ?_
     refine st_call BwtLawR_k16 (back_nil1 _) ?_
     rintro v138 w37 ⟨rfl, E138⟩
     refine st_val (ro_move (v := .tuple _) rfl) ?_
     refine st_val (ro_extract rfl rfl) ?_
     refine st_val (ro_extract rfl rfl) ?_
     refine st_val (ro_assign (v := .slice _ _ _) rfl) ?_
     refine st_val (ro_assign (v := .int _ _) rfl) ?_
     refine st_nil ?_
     refine nx_then ?_
     refine cd_seq ?_
     refine cd_region ?_
     refine st_val (ro_move (v := .int _ _) rfl) ?_
     refine st_call BwtLawR_k11 (num_any _ _) ?_
     rintro v142 w38 ⟨rfl, rfl⟩
     refine st_val (ro_eql rfl rfl) ?_
     refine st_val (ro_move (v := .bool _) rfl) ?_
     refine st_split (t := 144) rfl (fun Q39 => ?_) (fun Q39 => ?_)
     · (try first | replace Q39 := bn_t Q39 | replace Q39 := bn_f Q39)
       (try first | replace Q39 := bx_t Q39 | replace Q39 := bx_f Q39 | replace Q39 := be_t Q39 | replace Q39 := be_f Q39 | replace Q39 := of_decide_eq_true Q39 | replace Q39 := of_decide_eq_false Q39)
       first
        | (exfalso; first | omega | contradiction | (cases Q39; done))
        | skip
          refine st_unguard rfl ?_
          refine st_val (ro_move (v := .slice _ _ _) rfl) ?_
          refine st_unguard rfl ?_
          refine st_val (ro_len BwtLawR_l24 rfl) ?_
          refine st_unguard rfl ?_
          refine st_val (ro_eql rfl rfl) ?_
          refine st_val (ro_pickT (v := .bool _) rfl rfl) ?_
          refine st_val (ro_move (v := .bool _) rfl) ?_
          refine st_split (t := 149) rfl (fun Q40 => ?_) (fun Q40 => ?_)
          · (try first | replace Q40 := bn_t Q40 | replace Q40 := bn_f Q40)
            (try first | replace Q40 := bx_t Q40 | replace Q40 := bx_f Q40 | replace Q40 := be_t Q40 | replace Q40 := be_f Q40 | replace Q40 := of_decide_eq_true Q40 | replace Q40 := of_decide_eq_false Q40)
            first
             | (exfalso; first | omega | contradiction | (cases Q40; done))
             | skip
               refine st_unguard rfl ?_
               refine st_val (ro_move (v := .int _ _) rfl) ?_
               refine st_unguard rfl ?_
               refine st_val (ro_eql rfl rfl) ?_
               refine st_val (ro_pickT (v := .bool _) rfl rfl) ?_
               refine st_val (ro_move (v := .bool _) rfl) ?_
               refine st_split (t := 153) rfl (fun Q41 => ?_) (fun Q41 => ?_)
               · (try first | replace Q41 := bn_t Q41 | replace Q41 := bn_f Q41)
                 (try first | replace Q41 := bx_t Q41 | replace Q41 := bx_f Q41 | replace Q41 := be_t Q41 | replace Q41 := be_f Q41 | replace Q41 := of_decide_eq_true Q41 | replace Q41 := of_decide_eq_false Q41)
                 first
                  | (exfalso; first | omega | contradiction | (cases Q41; done))
                  | skip
                    refine st_unguard rfl ?_
                    refine st_val (ro_move (v := .int _ _) rfl) ?_
                    refine st_unguard rfl ?_
                    refine st_call BwtLawR_k11 (num_any _ _) ?_
                    rintro v155 w42 ⟨rfl, rfl⟩
                    refine st_unguard rfl ?_
                    refine st_val (ro_eql rfl rfl) ?_
                    refine st_val (ro_pickT (v := .bool _) rfl rfl) ?_
                    refine st_val (ro_move (v := .bool _) rfl) ?_
                    refine st_split (t := 158) rfl (fun Q43 => ?_) (fun Q43 => ?_)
                    · (try first | replace Q43 := bn_t Q43 | replace Q43 := bn_f Q43)
                      (try first | replace Q43 := bx_t Q43 | replace Q43 := bx_f Q43 | replace Q43 := be_t Q43 | replace Q43 := be_f Q43 | replace Q43 := of_decide_eq_true Q43 | replace Q43 := of_decide_eq_false Q43)
                      first
                       | (exfalso; first | omega | contradiction | (cases Q43; done))
                       | skip
                         refine st_unguard rfl ?_
                         refine st_val (ro_move (v := .slice _ _ _) rfl) ?_
                         refine st_unguard rfl ?_
                         refine st_val (ro_len BwtLawR_l24 rfl) ?_
                         refine st_unguard rfl ?_
                         refine st_val (ro_eql rfl rfl) ?_
                         refine st_val (ro_pickT (v := .bool _) rfl rfl) ?_
                         refine st_val (ro_move (v := .bool _) rfl) ?_
                         refine st_split (t := 163) rfl (fun Q44 => ?_) (fun Q44 => ?_)
                         · (try first | replace Q44 := bn_t Q44 | replace Q44 := bn_f Q44)
                           (try first | replace Q44 := bx_t Q44 | replace Q44 := bx_f Q44 | replace Q44 := be_t Q44 | replace Q44 := be_f Q44 | replace Q44 := of_decide_eq_true Q44 | replace Q44 := of_decide_eq_false Q44)
                           first
                            | (exfalso; first | omega | contradiction | (cases Q44; done))
                            | skip
                              refine st_unguard rfl ?_
                              refine st_val (ro_move (v := .int _ _) rfl) ?_
                              refine st_unguard rfl ?_
                              refine st_call BwtLawR_k11 (num_any _ _) ?_
                              rintro v165 w45 ⟨rfl, rfl⟩
                              refine st_unguard rfl ?_
                              refine st_val (ro_eql rfl rfl) ?_
                              refine st_val (ro_pickT (v := .bool _) rfl rfl) ?_
                              refine st_val (ro_move (v := .bool _) rfl) ?_
                              refine st_split (t := 168) rfl (fun Q46 => ?_) (fun Q46 => ?_)
                              · (try first | replace Q46 := bn_t Q46 | replace Q46 := bn_f Q46)
                                (try first | replace Q46 := bx_t Q46 | replace Q46 := bx_f Q46 | replace Q46 := be_t Q46 | replace Q46 := be_f Q46 | replace Q46 := of_decide_eq_true Q46 | replace Q46 := of_decide_eq_false Q46)
                                first
                                 | (exfalso; first | omega | contradiction | (cases Q46; done))
                                 | skip
                                   refine st_unguard rfl ?_
                                   refine st_val (ro_move (v := .slice _ _ _) rfl) ?_
                                   refine st_unguard rfl ?_
                                   refine st_val (ro_len BwtLawR_l22 rfl) ?_
                                   refine st_unguard rfl ?_
                                   refine st_val (ro_geq rfl rfl) ?_
                                   refine st_val (ro_pickT (v := .bool _) rfl rfl) ?_
                                   refine st_val (ro_move (v := .bool _) rfl) ?_
                                   refine st_split (t := 173) rfl (fun Q47 => ?_) (fun Q47 => ?_)
                                   · (try first | replace Q47 := bn_t Q47 | replace Q47 := bn_f Q47)
                                     (try first | replace Q47 := bx_t Q47 | replace Q47 := bx_f Q47 | replace Q47 := be_t Q47 | replace Q47 := be_f Q47 | replace Q47 := of_decide_eq_true Q47 | replace Q47 := of_decide_eq_false Q47)
                                     first
                                      | (exfalso; first | omega | contradiction | (cases Q47; done))
                                      | skip
                                        refine st_unguard rfl ?_
                                        refine st_call BwtLawR_k15 (wakes_rt _) ?_
                                        rintro v174 w48 ⟨rfl, E174⟩
                                        refine st_val (ro_pickT (v := .bool _) rfl rfl) ?_
                                        refine st_val (ro_assign (v := .bool _) rfl) ?_
                                        refine st_nil ?_
                                        refine nx_then ?_
                                        refine cd_ret ?_
                                        refine res1 (v := .bool _) rfl rfl ?_
                                        exact ⟨rfl, ((((hB.next E129).next E134).next E138).next E174)⟩
                                   · (try first | replace Q47 := bn_t Q47 | replace Q47 := bn_f Q47)
                                     (try first | replace Q47 := bx_t Q47 | replace Q47 := bx_f Q47 | replace Q47 := be_t Q47 | replace Q47 := be_f Q47 | replace Q47 := of_decide_eq_true Q47 | replace Q47 := of_decide_eq_false Q47)
                                     first
                                      | (exfalso; first | omega | contradiction | (cases Q47; done))
                                      | skip
                                        refine st_gno rfl rfl ?_
                                        refine st_val (ro_pickF (v := .bool _) rfl rfl) ?_
                                        refine st_val (ro_assign (v := .bool _) rfl) ?_
                                        refine st_nil ?_
                                        refine nx_then ?_
                                        refine cd_ret ?_
                                        refine res1 (v := .bool _) rfl rfl ?_
                                        exact ⟨rfl, (((hB.next E129).next E134).next E138)⟩
                              · (try first | replace Q46 := bn_t Q46 | replace Q46 := bn_f Q46)
                                (try first | replace Q46 := bx_t Q46 | replace Q46 := bx_f Q46 | replace Q46 := be_t Q46 | replace Q46 := be_f Q46 | replace Q46 := of_decide_eq_true Q46 | replace Q46 := of_decide_eq_false Q46)
                                first
                                 | (exfalso; first | omega | contradiction | (cases Q46; done))
                                 | skip
                                   refine st_gno rfl rfl ?_
                                   refine st_gno rfl rfl ?_
                                   refine st_gno rfl rfl ?_
                                   refine st_val (ro_pickF (v := .bool _) rfl rfl) ?_
                                   refine st_val (ro_move (v := .bool _) rfl) ?_
                                   refine st_gno rfl rfl ?_
                                   refine st_val (ro_pickF (v := .bool _) rfl rfl) ?_
                                   refine st_val (ro_assign (v := .bool _) rfl) ?_
                                   refine st_nil ?_
                                   refine nx_then ?_
                                   refine cd_ret ?_
                                   refine res1 (v := .bool _) rfl rfl ?_
                                   exact ⟨rfl, (((hB.next E129).next E134).next E138)⟩
                         · (try first | replace Q44 := bn_t Q44 | replace Q44 := bn_f Q44)
                           (try first | replace Q44 := bx_t Q44 | replace Q44 := bx_f Q44 | replace Q44 := be_t Q44 | replace Q44 := be_f Q44 | replace Q44 := of_decide_eq_true Q44 | replace Q44 := of_decide_eq_false Q44)
                           first
                            | (exfalso; first | omega | contradiction | (cases Q44; done))
                            | skip
                              refine st_gno rfl rfl ?_
                              refine st_gno rfl rfl ?_
                              refine st_gno rfl rfl ?_
                              refine st_val (ro_pickF (v := .bool _) rfl rfl) ?_
                              refine st_val (ro_move (v := .bool _) rfl) ?_
                              refine st_gno rfl rfl ?_
                              refine st_gno rfl rfl ?_
                              refine st_gno rfl rfl ?_
                              refine st_val (ro_pickF (v := .bool _) rfl rfl) ?_
                              refine st_val (ro_move (v := .bool _) rfl) ?_
                              refine st_gno rfl rfl ?_
                              refine st_val (ro_pickF (v := .bool _) rfl rfl) ?_
                              refine st_val (ro_assign (v := .bool _) rfl) ?_
                              refine st_nil ?_
                              refine nx_then ?_
                              refine cd_ret ?_
                              refine res1 (v := .bool _) rfl rfl ?_
                              exact ⟨rfl, (((hB.next E129).next E134).next E138)⟩
                    · (try first | replace Q43 := bn_t Q43 | replace Q43 := bn_f Q43)
                      (try first | replace Q43 := bx_t Q43 | replace Q43 := bx_f Q43 | replace Q43 := be_t Q43 | replace Q43 := be_f Q43 | replace Q43 := of_decide_eq_true Q43 | replace Q43 := of_decide_eq_false Q43)
                      first
                       | (exfalso; first | omega | contradiction | (cases Q43; done))
                       | skip
                         refine st_gno rfl rfl ?_
                         refine st_gno rfl rfl ?_
                         refine st_gno rfl rfl ?_
                         refine st_val (ro_pickF (v := .bool _) rfl rfl) ?_
                         refine st_val (ro_move (v := .bool _) rfl) ?_
                         refine st_gno rfl rfl ?_
                         refine st_gno rfl rfl ?_
                         refine st_gno rfl rfl ?_
                         refine st_val (ro_pickF (v := .bool _) rfl rfl) ?_
                         refine st_val (ro_move (v := .bool _) rfl) ?_
                         refine st_gno rfl rfl ?_
                         refine st_gno rfl rfl ?_
                         refine st_gno rfl rfl ?_
                         refine st_val (ro_pickF (v := .bool _) rfl rfl) ?_
                         refine st_val (ro_move (v := .bool _) rfl) ?_
                         refine st_gno rfl rfl ?_
                         refine st_val (ro_pickF (v := .bool _) rfl rfl) ?_
                         refine st_val (ro_assign (v := .bool _) rfl) ?_
                         refine st_nil ?_
                         refine nx_then ?_
                         refine cd_ret ?_
                         refine res1 (v := .bool _) rfl rfl ?_
                         exact ⟨rfl, (((hB.next E129).next E134).next E138)⟩
               · (try first | replace Q41 := bn_t Q41 | replace Q41 := bn_f Q41)
                 (try first | replace Q41 := bx_t Q41 | replace Q41 := bx_f Q41 | replace Q41 := be_t Q41 | replace Q41 := be_f Q41 | replace Q41 := of_decide_eq_true Q41 | replace Q41 := of_decide_eq_false Q41)
                 first
                  | (exfalso; first | omega | contradiction | (cases Q41; done))
                  | skip
                    refine st_gno rfl rfl ?_
                    refine st_gno rfl rfl ?_
                    refine st_gno rfl rfl ?_
                    refine st_val (ro_pickF (v := .bool _) rfl rfl) ?_
                    refine st_val (ro_move (v := .bool _) rfl) ?_
                    refine st_gno rfl rfl ?_
                    refine st_gno rfl rfl ?_
                    refine st_gno rfl rfl ?_
                    refine st_val (ro_pickF (v := .bool _) rfl rfl) ?_
                    refine st_val (ro_move (v := .bool _) rfl) ?_
                    refine st_gno rfl rfl ?_
                    refine st_gno rfl rfl ?_
                    refine st_gno rfl rfl ?_
                    refine st_val (ro_pickF (v := .bool _) rfl rfl) ?_
                    refine st_val (ro_move (v := .bool _) rfl) ?_
                    refine st_gno rfl rfl ?_
                    refine st_gno rfl rfl ?_
                    refine st_gno rfl rfl ?_
                    refine st_val (ro_pickF (v := .bool _) rfl rfl) ?_
                    refine st_val (ro_move (v := .bool _) rfl) ?_
                    refine st_gno rfl rfl ?_
                    refine st_val (ro_pickF (v := .bool _) rfl rfl) ?_
                    refine st_val (ro_assign (v := .bool _) rfl) ?_
                    refine st_nil ?_
                    refine nx_then ?_
                    refine cd_ret ?_
                    refine res1 (v := .bool _) rfl rfl ?_
                    exact ⟨rfl, (((hB.next E129).next E134).next E138)⟩
          · (try first | replace Q40 := bn_t Q40 | replace Q40 := bn_f Q40)
            (try first | replace Q40 := bx_t Q40 | replace Q40 := bx_f Q40 | replace Q40 := be_t Q40 | replace Q40 := be_f Q40 | replace Q40 := of_decide_eq_true Q40 | replace Q40 := of_decide_eq_false Q40)
            first
             | (exfalso; first | omega | contradiction | (cases Q40; done))
             | skip
               refine st_gno rfl rfl ?_
               refine st_gno rfl rfl ?_
               refine st_val (ro_pickF (v := .bool _) rfl rfl) ?_
               refine st_val (ro_move (v := .bool _) rfl) ?_
               refine st_gno rfl rfl ?_
               refine st_gno rfl rfl ?_
               refine st_gno rfl rfl ?_
               refine st_val (ro_pickF (v := .bool _) rfl rfl) ?_
               refine st_val (ro_move (v := .bool _) rfl) ?_
               refine st_gno rfl rfl ?_
               refine st_gno rfl rfl ?_
               refine st_gno rfl rfl ?_
               refine st_val (ro_pickF (v := .bool _) rfl rfl) ?_
               refine st_val (ro_move (v := .bool _) rfl) ?_
               refine st_gno rfl rfl ?_
               refine st_gno rfl rfl ?_
               refine st_gno rfl rfl ?_
               refine st_val (ro_pickF (v := .bool _) rfl rfl) ?_
               refine st_val (ro_move (v := .bool _) rfl) ?_
               refine st_gno rfl rfl ?_
               refine st_gno rfl rfl ?_
               refine st_gno rfl rfl ?_
               refine st_val (ro_pickF (v := .bool _) rfl rfl) ?_
               refine st_val (ro_move (v := .bool _) rfl) ?_
               refine st_gno rfl rfl ?_
               refine st_val (ro_pickF (v := .bool _) rfl rfl) ?_
               refine st_val (ro_assign (v := .bool _) rfl) ?_
               refine st_nil ?_
               refine nx_then ?_
               refine cd_ret ?_
               refine res1 (v := .bool _) rfl rfl ?_
               exact ⟨rfl, (((hB.next E129).next E134).next E138)⟩
     · (try first | replace Q39 := bn_t Q39 | replace Q39 := bn_f Q39)
       (try first | replace Q39 := bx_t Q39 | replace Q39 := bx_f Q39 | replace Q39 := be_t Q39 | replace Q39 := be_f Q39 | replace Q39 := of_decide_eq_true Q39 | replace Q39 := of_decide_eq_false Q39)
       first
        | (exfalso; first | omega | contradiction | (cases Q39; done))
        | skip
          refine st_gno rfl rfl ?_
          refine st_gno rfl rfl ?_
          refine st_gno rfl rfl ?_
          refine st_val (ro_pickF (v := .bool _) rfl rfl) ?_
          refine st_val (ro_move (v := .bool _) rfl) ?_
          refine st_gno rfl rfl ?_
          refine st_gno rfl rfl ?_
          refine st_val (ro_pickF (v := .bool _) rfl rfl) ?_
          refine st_val (ro_move (v := .bool _) rfl) ?_
          refine st_gno rfl rfl ?_
          refine st_gno rfl rfl ?_
          refine st_gno rfl rfl ?_
          refine st_val (ro_pickF (v := .bool _) rfl rfl) ?_
          refine st_val (ro_move (v := .bool _) rfl) ?_
          refine st_gno rfl rfl ?_
          refine st_gno rfl rfl ?_
          refine st_gno rfl rfl ?_
          refine st_val (ro_pickF (v := .bool _) rfl rfl) ?_
          refine st_val (ro_move (v := .bool _) rfl) ?_
          refine st_gno rfl rfl ?_
          refine st_gno rfl rfl ?_
          refine st_gno rfl rfl ?_
          refine st_val (ro_pickF (v := .bool _) rfl rfl) ?_
          refine st_val (ro_move (v := .bool _) rfl) ?_
          refine st_gno rfl rfl ?_
          refine st_gno rfl rfl ?_
          refine st_gno rfl rfl ?_
          refine st_val (ro_pickF (v := .bool _) rfl rfl) ?_
          refine st_val (ro_move (v := .bool _) rfl) ?_
          refine st_gno rfl rfl ?_
          refine st_val (ro_pickF (v := .bool _) rfl rfl) ?_
          refine st_val (ro_assign (v := .bool _) rfl) ?_
          refine st_nil ?_
          refine nx_then ?_
          refine cd_ret ?_
          refine res1 (v := .bool _) rfl rfl ?_
          exact ⟨rfl, (((hB.next E129).next E134).next E138)⟩
set_option maxRecDepth 100000 in
theorem BwtRuns_lifted (os : Os) (started : os.Started) (H : Type) (enc : TypeId × Value → H) :
    ReturnsInHanded {} Try.checked os 6 .any (Rows.bwtRunsSpec.pre6 enc Try.prog Try.f6 Rows.bwtRunsRow.domain false) (Rows.bwtRunsSpec.post enc Try.prog Try.f6 false true false false) := by
  refine returnsInHanded_of_change_sized (C := Try.checked) Try.own started (by kernel_rfl) Try.func6
    (ChangeSpec.witness6 (enc := enc) (C := Try.checked) false ⟨#[], #[.slice none 0 0], []⟩ 8 (by kernel_rfl) (by kernel_rfl) (by kernel_rfl) (by kernel_rfl)) ?_
  intro W base args ds gs before hval hW _ hsz _
  exact law_step 6 Try.f6 22 4 Rows.bwtRunsSpec Try.params6 (by kernel_rfl) Try.underlying4 rfl (fun _ => rfl) (by kernel_rfl) (of_decide_eq_true (by kernel_rfl)) (walk_sl askT5 (by kernel_rfl) (fun A c xs w _ _ => runs_law A c xs.length w)) W base args ds gs before hval hW hsz

theorem BwtRuns_holds : Rows.BwtRunsSaid :=
  OpenClaim.holds_of_wide 6 Try.f6 rfl rfl rfl rfl rfl rfl rfl ⟨rfl, rfl, rfl, rfl, rfl⟩ rfl rfl rfl rfl rfl (by kernel_rfl) Try.func6 (by kernel_rfl)
    (of_decide_eq_true (by kernel_rfl)) (by unfold Func.isWrapper; first | (rw [if_pos (by decide +kernel)]; kernel_rfl) | (rw [if_neg (by decide +kernel)]; exact ⟨rfl, rfl⟩))
    (fun os started H enc _ => BwtRuns_lifted os started H enc)
#print axioms BwtRuns_holds

end Go.Proofs.Ytpafbgdbjambgaa
