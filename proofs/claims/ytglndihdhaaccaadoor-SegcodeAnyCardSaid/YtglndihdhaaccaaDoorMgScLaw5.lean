/- segcode: calls on what is encoded; wakes; the law SegcodeAny. -/
import Derived.Test.YtglndihdhaaccaaDoorMgScLaw2
import Derived.Test.YtglndihdhaaccaaDoorMgScLaw4
import Derived.Laws.StructEq
import Derived.Test.YtglndihdhaaccaaDoorMgScLaw1
import Derived.Test.YtglndihdhaaccaaDoorCards
import Derived.Test.YtglndihdhaaccaaDoorTie
import Derived.Lib.LaidTab
set_option maxRecDepth 100000
namespace Go.Proofs.YtglndihdhaaccaaDoor
open Go.RowKit
open Go.ChangeShapes Go.WideShapes Go.ChangeAt
open Go.Proofs.YtglndihdhaaccaaDoor.SA
theorem SegWalks_e60 : elemQ Tryd.prog 60 = some (3, 1) := by kernel_rfl
theorem SegWalks_m60 : makeQ Tryd.prog 60 = some (3, 8, (.int .i64 0)) := by kernel_rfl
theorem SegWalks_s5 : (Tryd.prog.underlying 5).isSome = true := by kernel_rfl
theorem SegWalks_i3 : Tryd.prog.underlying 3 = some (.int .i64) := by kernel_rfl
theorem SegWalks_z3 : sizeQ Tryd.prog 3 = some 1 := by kernel_rfl
theorem SegWalks_g9 : aggQ Tryd.prog 9 = some false := by kernel_rfl
theorem SegWalks_l32 : (elemQ Tryd.prog 32).isSome = true := by kernel_rfl
theorem SegWalks_e32 : elemQ Tryd.prog 32 = some (43, 2) := by kernel_rfl
theorem SegWalks_g43 : aggQ Tryd.prog 43 = some true := by kernel_rfl
theorem SegWalks_z43 : sizeQ Tryd.prog 43 = some 2 := by kernel_rfl
theorem SegWalks_o43 : zeroQ Tryd.prog 43 = some (.agg #[.string ⟨#[]⟩, .string ⟨#[]⟩]) := by kernel_rfl
theorem SegWalks_f43_0 : fieldQ Tryd.prog 43 0 = some 0 := by kernel_rfl
theorem SegWalks_f43_1 : fieldQ Tryd.prog 43 1 = some 1 := by kernel_rfl
theorem SegWalks_q32 : litQ Tryd.prog 32 = some (43, 2, 32, (.agg #[.string ⟨#[]⟩, .string ⟨#[]⟩])) := by kernel_rfl
theorem SegWalks_u32 : Tryd.prog.underlying 32 = some (.slice 43) := by kernel_rfl
def dd : Dc := (⟨#[]⟩, ⟨#[]⟩)
theorem getD_get {ds : List Dc} {i : Nat} (h : i < ds.length) : ds.getD i dd = ds[i] := by rw [List.getD_eq_getElem?_getD, List.getElem?_eq_getElem h]; rfl
/-- may this be the name at this place? -/
def okI (ds : List Dc) (i : Nat) : Prop := 1 ≤ (ds.getD i dd).1.size ∧ (ds.getD i dd).1.size ≤ 64 ∧ (0 < i → sLt (ds.getD (i - 1) dd).1 (ds.getD i dd).1)
def DOrd (ds : List Dc) : Prop := ∀ i, i < ds.length → okI ds i
def DFit (ds : List Dc) : Prop := ds.length ≤ 64 ∧ (∀ d ∈ ds, d.2.size ≤ 2048) ∧ dsz ds ≤ 16384
open Classical in
/-- what is wrong with documents -/
noncomputable def docE (ds : List Dc) : Int := if DOrd ds then (if DFit ds then 0 else 2) else 1
theorem doc_zero {ds : List Dc} (h : docE ds = 0) : DOrd ds ∧ DFit ds := by
  unfold docE at h
  split at h
  · split at h
    · exact ⟨by assumption, by assumption⟩
    · cases h
  · cases h
theorem doc_0 {ds : List Dc} (h : DOrd ds) (k : DFit ds) : docE ds = 0 := by unfold docE; rw [if_pos h, if_pos k]
theorem doc_1 {ds : List Dc} (h : ¬ DOrd ds) : docE ds = 1 := by unfold docE; rw [if_neg h]
theorem doc_2 {ds : List Dc} (h : DOrd ds) (k : ¬ DFit ds) : docE ds = 2 := by unfold docE; rw [if_pos h, if_neg k]
theorem dsz_take {ds : List Dc} {i : Nat} (h : i < ds.length) : dsz (ds.take (i + 1)) = dsz (ds.take i) + (ds.getD i dd).2.size := by
  rw [List.take_succ_eq_append_getElem h, dsz_app, getD_get h]
  simp [dsz]
theorem dsz_le {ds : List Dc} (i : Nat) : dsz (ds.take i) ≤ dsz ds := by
  have := dsz_app (ds.take i) (ds.drop i)
  rw [List.take_append_drop] at this
  omega
/-- symbols of a text, as far as they are laid -/
def syT (s : ByteArray) (k i : Nat) : Int := if i < k then (((txt s).getD i 0 : Nat) : Int) else 0
theorem syT_put {s : ByteArray} {k i : Nat} : upd (syT s k) k (((txt s).getD k 0 : Nat) : Int) i = syT s (k + 1) i := by
  unfold upd syT
  split
  · rename_i e; subst e; rw [if_pos (by omega)]
  · rename_i e
    by_cases h : i < k
    · rw [if_pos h, if_pos (by omega)]
    · rw [if_neg h, if_neg (by omega)]
theorem syT_zero {s : ByteArray} (i : Nat) : (0 : Int) = syT s 0 i := rfl
theorem syT_row {w : World} {g : Nat} {s : ByteArray} (h : Blk w g 3 (tabI s.size (syT s s.size))) : RowOf iV w (some ⟨g, 0, none⟩) (cI (txt s)) := fun _ => ⟨g, 0, rfl, fun i hi => by
  have hi2 : i < s.size := by rw [cI, List.length_map, txt_len] at hi; exact hi
  have e : (cI (txt s))[i] = syT s s.size i := by
    unfold syT
    rw [if_pos hi2, List.getD_eq_getElem?_getD, List.getElem?_eq_getElem (by rw [txt_len]; exact hi2)]
    simp [cI]
  rw [e, Nat.zero_add]
  exact h.rd i (tabI_at hi2)⟩
set_option maxHeartbeats 400000 in
theorem symb_rt (s : ByteArray) (w : World) (hs : s.size ≤ 1000000) :
    Rt Tryd.prog 24 [.string s] w (fun v w' => (∃ g, v = .slice (some ⟨g, 0, none⟩) s.size s.size ∧ w.heap.size ≤ g ∧ Blk w' g 3 (tabI s.size (syT s s.size))) ∧ From w w') := by
  refine enter (n := 23) Tryd.func24 rfl rfl rfl ?_
  refine cd_seq (cd_region ?_)
  refine ass rfl ?_
  refine st_nil (nx_then (cd_seq (cd_region ?_)))
  refine mvg rfl ?_
  refine st_val (ro_lenS (by kernel_rfl) rfl) ?_
  refine st_make SegWalks_m60 rfl rfl rfl (by omega) (by omega) ?_
  intro b7 w1 E7 hb7 hk7
  have hg7 : w.heap.size ≤ b7 := by rw [hb7]; exact (From.rfl_).size
  refine ass rfl ?_
  refine st_nil (nx_then (cd_seq (cd_seq (cd_region ?_))))
  refine mvg rfl ?_
  refine st_val (ro_lenS (by kernel_rfl) rfl) ?_
  refine mvi rfl ?_
  refine st_nil (nx_then (cd_block ?_))
  refine cd_loop (G := Nat) [4, 11, 12, 13, 14, 15, 16, 17, 18, 19, 20, 21] (fun k => [(10, .int .i64 (k : Nat))]) (fun k w' => k ≤ s.size ∧ Blk w' b7 3 (tabI s.size (syT s k)) ∧ From w w') (fun k => s.size - k) (0) ⟨rfl, trivial⟩ ?_ ?_
  · exact ⟨Nat.zero_le _, by rw [← tabI_congr (fun i _ => syT_zero i), ← tabI_zero]; exact hk7, (From.rfl_.next E7)⟩
  rintro k ρ2 w2 ⟨hk, hT9, hB⟩
  refine cd_seq (cd_region ?_)
  refine st_val (ro_lss rfl rfl) ?_
  refine st_nil (nx_then (cd_seq ?_))
  refine cd_cond rfl (fun Q3 => ?_) (fun Q3 => ?_)
  · with_reducible replace Q3 := of_decide_eq_true Q3
    obtain ⟨u, hu, htu, _⟩ := str_at (s := s) (i := k) (by omega)
    have hub := u.toNat_lt
    refine cd_skip (nx_then (cd_seq (cd_block (cd_seq (cd_region ?_)))))
    refine mvi rfl ?_
    refine asi rfl ?_
    refine st_nil (nx_then (cd_region ?_))
    refine mvs rfl ?_
    refine mvi rfl ?_
    refine mvg rfl ?_
    refine mvi rfl ?_
    refine st_val (ro_indexS (by kernel_rfl) rfl rfl (by omega) hu) ?_
    refine st_val (ro_convI SegWalks_s5 SegWalks_i3 rfl (by omega)) ?_
    refine st_val (ro_addN (b := 1) rfl rfl (by omega)) ?_
    refine st_spell (t := 19) (v := .int _ _) (v' := .int .i64 (((txt s).getD k 0 : Nat) : Int)) rfl (by rw [htu]) ?_
    refine st_val (ro_indexAddr1 SegWalks_e60 rfl rfl (by omega)) ?_
    refine st_put (v := .int _ _) SegWalks_z3 rfl rfl rfl ((hT9.from_ From.rfl_)) (by rw [tabI_size]; omega) ?_
    intro w4 O5 P5
    refine st_nil (nx_block (nx_then (cd_region ?_)))
    refine st_val (ro_addN (b := 1) rfl rfl (by omega)) ?_
    refine mvi rfl ?_
    refine st_nil ?_
    refine nx_cut (k + 1) ⟨(by first | rfl | (refine int_eq ?_; omega)), trivial⟩ (by (iterate 27 refine agr_cons rfl ?_); exact agr_rfl) ⟨?_, ?_⟩
    · exact ⟨by omega, by have h9 := P5; rw [Nat.zero_add] at h9; rw [← tabI_congr (fun i _ => syT_put), ← tabI_set]; exact h9, (hB.only O5 (hg7))⟩
    · show s.size - (k + 1) < s.size - k; omega
  with_reducible replace Q3 := of_decide_eq_false Q3
  refine cd_exit ?_
  refine ex_then (ex_then (ex_block (nx_then (cd_seq (cd_region ?_)))))
  refine mvs rfl ?_
  refine ass rfl ?_
  refine st_nil (nx_then (cd_ret ?_))
  refine res1 (v := .slice _ _ _) rfl rfl ?_
  obtain rfl : k = s.size := by omega
  exact ⟨⟨b7, rfl, hg7, hT9⟩, hB⟩
set_option maxHeartbeats 2000000 in
theorem ordered_rt (A : Option Addr) (c n : Nat) (ds : List Dc) (w : World) (hr : RowK 2 dV w A ds) (hn : n = ds.length) (hl : n ≤ 100000000) :
    Rt Tryd.prog 22 [.slice A n c] w (fun v w' => (∃ b : Bool, v = .bool b ∧ (b = true ↔ DOrd ds)) ∧ From w w') := by
  refine enter (n := 38) Tryd.func22 rfl rfl rfl ?_
  refine cd_seq (cd_region ?_)
  refine asb rfl ?_
  refine st_nil (nx_then (cd_seq (cd_seq (cd_region ?_))))
  refine mvs rfl ?_
  refine st_val (ro_len SegWalks_l32 rfl) ?_
  refine mvi rfl ?_
  refine st_nil (nx_then (cd_block ?_))
  refine cd_loop (G := Nat) [2, 3, 4, 8, 9, 10, 11, 12, 13, 14, 15, 16, 17, 18, 19, 20, 21, 22, 23, 24, 25, 26, 27, 28, 29, 30, 31, 32, 33, 34, 35, 36, 37] (fun i => [(7, .int .i64 (i : Nat))]) (fun i w' => i ≤ ds.length ∧ (∀ x, x < i → okI ds x) ∧ From w w') (fun i => ds.length - i) (0) ⟨rfl, trivial⟩ ?_ ?_
  · exact ⟨Nat.zero_le _, fun x h => absurd h (by omega), From.rfl_⟩
  rintro i ρ1 w1 ⟨hi, hok, hB⟩
  refine cd_seq (cd_region ?_)
  refine st_val (ro_lss rfl rfl) ?_
  refine st_nil (nx_then (cd_seq ?_))
  refine cd_cond rfl (fun Q2 => ?_) (fun Q2 => ?_)
  · with_reducible replace Q2 := of_decide_eq_true Q2
    obtain ⟨bd, od, rfl, hcd⟩ := hr (by omega)
    have hil : i < ds.length := by omega
    have hce := hcd i hil
    obtain ⟨d, hd⟩ : ∃ d, ds[i] = d := ⟨_, rfl⟩
    have hdi : ds.getD i dd = d := by rw [getD_get hil, hd]
    rw [hd] at hce
    have hcp : 0 < i → w.cell? ⟨bd, od + (i - 1) * 2 + 0, none⟩ = some (.string (ds.getD (i - 1) dd).1) := fun h => by
      have h2 := hcd (i - 1) (by omega)
      rw [← getD_get (show i - 1 < ds.length by omega)] at h2
      exact h2 0 _ rfl
    refine cd_skip (nx_then (cd_seq (cd_block (cd_seq (cd_region ?_)))))
    refine mvi rfl ?_
    refine st_val (ro_indexAddrN SegWalks_e32 rfl rfl (by omega)) ?_
    refine st_val (ro_loadA (cs := [_, _]) SegWalks_g43 SegWalks_z43 rfl (by exact rangeF hB hce)) ?_
    refine st_alloc SegWalks_o43 ?_
    intro b4 w3 E4 hb4 hk4
    have hg4 : w.heap.size ≤ b4 := by rw [hb4]; exact (hB).size
    refine asi rfl ?_
    refine st_putW (vs := [_, _]) SegWalks_z43 rfl rfl (by simp [Value.oneCell']) (hk4) rfl ?_
    intro w4 O3 P3
    replace P3 : Blk w4 b4 43 #[.string (ds.getD i dd).1, .string (ds.getD i dd).2] := by rw [hdi]; exact P3
    refine st_nil (nx_then (cd_seq ?_))
    have hsp : (ds.getD i dd).1.size < 1 ∨ (1 ≤ (ds.getD i dd).1.size ∧ 64 < (ds.getD i dd).1.size) ∨ (1 ≤ (ds.getD i dd).1.size ∧ (ds.getD i dd).1.size ≤ 64 ∧ i = 0) ∨ (1 ≤ (ds.getD i dd).1.size ∧ (ds.getD i dd).1.size ≤ 64 ∧ 0 < i) := by omega
    rcases hsp with hc1 | ⟨hc1, hc2⟩ | ⟨hc1, hc2, hc3⟩ | ⟨hc1, hc2, hc3⟩
    · apply cd_drawnD 25 [(12, eqp _), (13, eqp (.string (ds.getD i dd).1)), (14, eqp _), (15, eqp _), (16, eqp _), (17, eqp _), (18, eqp _), (19, eqp _), (20, eqp _), (21, eqp _), (22, eqp _), (23, eqp _), (24, eqp _), (25, eqp _), (26, eqp _), (27, eqp _), (28, eqp _), (29, eqp _), (30, eqp _), (31, eqp _), (32, eqp _), (33, eqp _), (34, eqp _), (35, eqp _), (36, eqp _)] (by repeat first | exact pq_body | refine pq_then ?_ | refine pq_block ?_) (by kernel_rfl) (by kernel_rfl) ⟨eqp_mono _, eqp_mono _, eqp_mono _, eqp_mono _, eqp_mono _, eqp_mono _, eqp_mono _, eqp_mono _, eqp_mono _, eqp_mono _, eqp_mono _, eqp_mono _, eqp_mono _, eqp_mono _, eqp_mono _, eqp_mono _, eqp_mono _, eqp_mono _, eqp_mono _, eqp_mono _, eqp_mono _, eqp_mono _, eqp_mono _, eqp_mono _, eqp_mono _, trivial⟩
      case hop =>
       refine ⟨?_, ?_⟩
       · rintro - w6 D6
         show OpOK _ _ _ _ _ _ _
         exact ok_pure (ro_fieldAddr SegWalks_f43_0 rfl) rfl
       refine ⟨?_, ?_⟩
       · rintro - w7 D7
         rintro _ rfl
         show OpOK _ _ _ _ _ _ _
         exact ok_pure (ro_load (v := .string (ds.getD i dd).1) SegWalks_g9 rfl ((P3.from_ D7).rd 0 rfl)) rfl
       refine ⟨?_, ?_⟩
       · rintro - w8 D8
         rintro v8_13 rfl
         show OpOK _ _ _ _ _ _ _
         exact ok_pure (ro_lenS (by kernel_rfl) rfl) rfl
       refine ⟨?_, ?_⟩
       · rintro - w9 D9
         rintro _ rfl
         show OpOK _ _ _ _ _ _ _
         exact ok_pure (ro_bt (ro_lss rfl rfl) (decide_eq_true (by omega))) rfl
       refine ⟨?_, ?_⟩
       · rintro - w10 D10
         rintro _ rfl
         show OpOK _ _ _ _ _ _ _
         exact ok_pure (ro_move (v := .bool _) rfl) rfl
       refine ⟨?_, ?_⟩
       · rintro - w11 D11
         rintro _ rfl
         show OpOK _ _ _ _ _ _ _
         exact ok_gno rfl rfl rfl
       refine ⟨?_, ?_⟩
       · rintro - w12 D12
         rintro _ rfl _ rfl
         show OpOK _ _ _ _ _ _ _
         exact ok_gno rfl rfl rfl
       refine ⟨?_, ?_⟩
       · rintro - w13 D13
         rintro _ rfl _ rfl
         show OpOK _ _ _ _ _ _ _
         exact ok_gno rfl rfl rfl
       refine ⟨?_, ?_⟩
       · rintro - w14 D14
         rintro _ rfl _ rfl
         show OpOK _ _ _ _ _ _ _
         exact ok_gno rfl rfl rfl
       refine ⟨?_, ?_⟩
       · rintro - w15 D15
         rintro _ rfl _ rfl
         show OpOK _ _ _ _ _ _ _
         exact ok_pure (ro_pickT (v := .bool _) rfl rfl) rfl
       refine ⟨?_, ?_⟩
       · rintro - w16 D16
         rintro _ rfl
         show OpOK _ _ _ _ _ _ _
         exact ok_pure (ro_move (v := .bool _) rfl) rfl
       refine ⟨?_, ?_⟩
       · rintro - w17 D17
         rintro _ rfl
         show OpOK _ _ _ _ _ _ _
         exact ok_gno rfl rfl rfl
       refine ⟨?_, ?_⟩
       · rintro - w18 D18
         rintro _ rfl _ rfl
         show OpOK _ _ _ _ _ _ _
         exact ok_gno rfl rfl rfl
       refine ⟨?_, ?_⟩
       · rintro - w19 D19
         rintro _ rfl _ rfl
         show OpOK _ _ _ _ _ _ _
         exact ok_gno rfl rfl rfl
       refine ⟨?_, ?_⟩
       · rintro - w20 D20
         rintro _ rfl
         show OpOK _ _ _ _ _ _ _
         exact ok_gund rfl rfl
       refine ⟨?_, ?_⟩
       · rintro - w21 D21
         rintro _ rfl
         show OpOK _ _ _ _ _ _ _
         exact ok_gund rfl rfl
       refine ⟨?_, ?_⟩
       · rintro - w22 D22
         rintro _ rfl _ rfl
         show OpOK _ _ _ _ _ _ _
         exact ok_gund rfl rfl
       refine ⟨?_, ?_⟩
       · rintro - w23 D23
         rintro _ rfl _ rfl _ rfl
         show OpOK _ _ _ _ _ _ _
         exact ok_gund rfl rfl
       refine ⟨?_, ?_⟩
       · rintro - w24 D24
         rintro _ rfl _ rfl
         show OpOK _ _ _ _ _ _ _
         exact ok_gund rfl rfl
       refine ⟨?_, ?_⟩
       · rintro - w25 D25
         rintro _ rfl _ rfl
         show OpOK _ _ _ _ _ _ _
         exact ok_gund rfl rfl
       refine ⟨?_, ?_⟩
       · rintro - w26 D26
         rintro _ rfl
         show OpOK _ _ _ _ _ _ _
         exact ok_gund rfl rfl
       refine ⟨?_, ?_⟩
       · rintro - w27 D27
         rintro _ rfl _ rfl
         show OpOK _ _ _ _ _ _ _
         exact ok_gund rfl rfl
       refine ⟨?_, ?_⟩
       · rintro - w28 D28
         rintro _ rfl _ rfl _ rfl
         show OpOK _ _ _ _ _ _ _
         exact ok_gund rfl rfl
       refine ⟨?_, ?_⟩
       · rintro - w29 D29
         rintro _ rfl _ rfl _ rfl
         show OpOK _ _ _ _ _ _ _
         exact ok_gno rfl rfl rfl
       refine ⟨?_, ?_⟩
       · rintro - w30 D30
         rintro _ rfl _ rfl
         show OpOK _ _ _ _ _ _ _
         exact ok_pure (ro_pickT (v := .bool _) rfl rfl) rfl
       exact trivial
      case hend =>
       intro w31 D31
       rintro _ rfl v13 rfl _ rfl _ rfl _ rfl _ rfl _ rfl _ rfl _ rfl _ rfl _ rfl _ rfl _ rfl _ rfl _ rfl _ rfl _ rfl _ rfl _ rfl _ rfl _ rfl _ rfl _ rfl _ rfl _ rfl
       show St _ _ _ _ _ _ _
       refine st_nil (nx_then ?_)
       refine cd_condT rfl ?_
       refine cd_seq (cd_region ?_)
       refine asb rfl ?_
       refine st_nil (nx_then (cd_ret (rt_block (rt_then (rt_then (rt_block (rt_then ?_)))))))
       refine res1 (v := .bool _) rfl rfl ?_
       refine ⟨⟨false, rfl, fun h => (by cases h), fun h => ?_⟩, (((hB.next E4).only O3 (hg4)).next D31)⟩
       obtain ⟨x1, x2, x3⟩ := h i hil
       exfalso
       first
         | omega
         | exact hnl (x3 (by omega))
    · apply cd_drawnD 25 [(12, eqp _), (13, eqp (.string (ds.getD i dd).1)), (14, eqp _), (15, eqp _), (16, eqp _), (17, eqp _), (18, eqp (.string (ds.getD i dd).1)), (19, eqp _), (20, eqp _), (21, eqp _), (22, eqp _), (23, eqp _), (24, eqp _), (25, eqp _), (26, eqp _), (27, eqp _), (28, eqp _), (29, eqp _), (30, eqp _), (31, eqp _), (32, eqp _), (33, eqp _), (34, eqp _), (35, eqp _), (36, eqp _)] (by repeat first | exact pq_body | refine pq_then ?_ | refine pq_block ?_) (by kernel_rfl) (by kernel_rfl) ⟨eqp_mono _, eqp_mono _, eqp_mono _, eqp_mono _, eqp_mono _, eqp_mono _, eqp_mono _, eqp_mono _, eqp_mono _, eqp_mono _, eqp_mono _, eqp_mono _, eqp_mono _, eqp_mono _, eqp_mono _, eqp_mono _, eqp_mono _, eqp_mono _, eqp_mono _, eqp_mono _, eqp_mono _, eqp_mono _, eqp_mono _, eqp_mono _, eqp_mono _, trivial⟩
      case hop =>
       refine ⟨?_, ?_⟩
       · rintro - w33 D33
         show OpOK _ _ _ _ _ _ _
         exact ok_pure (ro_fieldAddr SegWalks_f43_0 rfl) rfl
       refine ⟨?_, ?_⟩
       · rintro - w34 D34
         rintro _ rfl
         show OpOK _ _ _ _ _ _ _
         exact ok_pure (ro_load (v := .string (ds.getD i dd).1) SegWalks_g9 rfl ((P3.from_ D34).rd 0 rfl)) rfl
       refine ⟨?_, ?_⟩
       · rintro - w35 D35
         rintro v35_13 rfl
         show OpOK _ _ _ _ _ _ _
         exact ok_pure (ro_lenS (by kernel_rfl) rfl) rfl
       refine ⟨?_, ?_⟩
       · rintro - w36 D36
         rintro _ rfl
         show OpOK _ _ _ _ _ _ _
         exact ok_pure (ro_bf (ro_lss rfl rfl) (decide_eq_false (by omega))) rfl
       refine ⟨?_, ?_⟩
       · rintro - w37 D37
         rintro _ rfl
         show OpOK _ _ _ _ _ _ _
         exact ok_pure (ro_move (v := .bool _) rfl) rfl
       refine ⟨?_, ?_⟩
       · rintro - w38 D38
         rintro _ rfl
         show OpOK _ _ _ _ _ _ _
         exact ok_gpure rfl (ro_fieldAddr SegWalks_f43_0 rfl) rfl
       refine ⟨?_, ?_⟩
       · rintro - w39 D39
         rintro _ rfl _ rfl
         show OpOK _ _ _ _ _ _ _
         exact ok_gpure rfl (ro_load (v := .string (ds.getD i dd).1) SegWalks_g9 rfl ((P3.from_ D39).rd 0 rfl)) rfl
       refine ⟨?_, ?_⟩
       · rintro - w40 D40
         rintro _ rfl v40_18 rfl
         show OpOK _ _ _ _ _ _ _
         exact ok_gpure rfl (ro_lenS (by kernel_rfl) rfl) rfl
       refine ⟨?_, ?_⟩
       · rintro - w41 D41
         rintro _ rfl _ rfl
         show OpOK _ _ _ _ _ _ _
         exact ok_gpure rfl (ro_bt (ro_gtr rfl rfl) (decide_eq_true (by omega))) rfl
       refine ⟨?_, ?_⟩
       · rintro - w42 D42
         rintro _ rfl _ rfl
         show OpOK _ _ _ _ _ _ _
         exact ok_pure (ro_pickF (v := .bool _) rfl rfl) rfl
       refine ⟨?_, ?_⟩
       · rintro - w43 D43
         rintro _ rfl
         show OpOK _ _ _ _ _ _ _
         exact ok_pure (ro_move (v := .bool _) rfl) rfl
       refine ⟨?_, ?_⟩
       · rintro - w44 D44
         rintro _ rfl
         show OpOK _ _ _ _ _ _ _
         exact ok_gno rfl rfl rfl
       refine ⟨?_, ?_⟩
       · rintro - w45 D45
         rintro _ rfl _ rfl
         show OpOK _ _ _ _ _ _ _
         exact ok_gno rfl rfl rfl
       refine ⟨?_, ?_⟩
       · rintro - w46 D46
         rintro _ rfl _ rfl
         show OpOK _ _ _ _ _ _ _
         exact ok_gno rfl rfl rfl
       refine ⟨?_, ?_⟩
       · rintro - w47 D47
         rintro _ rfl
         show OpOK _ _ _ _ _ _ _
         exact ok_gund rfl rfl
       refine ⟨?_, ?_⟩
       · rintro - w48 D48
         rintro _ rfl
         show OpOK _ _ _ _ _ _ _
         exact ok_gund rfl rfl
       refine ⟨?_, ?_⟩
       · rintro - w49 D49
         rintro _ rfl _ rfl
         show OpOK _ _ _ _ _ _ _
         exact ok_gund rfl rfl
       refine ⟨?_, ?_⟩
       · rintro - w50 D50
         rintro _ rfl _ rfl _ rfl
         show OpOK _ _ _ _ _ _ _
         exact ok_gund rfl rfl
       refine ⟨?_, ?_⟩
       · rintro - w51 D51
         rintro _ rfl _ rfl
         show OpOK _ _ _ _ _ _ _
         exact ok_gund rfl rfl
       refine ⟨?_, ?_⟩
       · rintro - w52 D52
         rintro _ rfl _ rfl
         show OpOK _ _ _ _ _ _ _
         exact ok_gund rfl rfl
       refine ⟨?_, ?_⟩
       · rintro - w53 D53
         rintro _ rfl
         show OpOK _ _ _ _ _ _ _
         exact ok_gund rfl rfl
       refine ⟨?_, ?_⟩
       · rintro - w54 D54
         rintro _ rfl _ rfl
         show OpOK _ _ _ _ _ _ _
         exact ok_gund rfl rfl
       refine ⟨?_, ?_⟩
       · rintro - w55 D55
         rintro _ rfl _ rfl _ rfl
         show OpOK _ _ _ _ _ _ _
         exact ok_gund rfl rfl
       refine ⟨?_, ?_⟩
       · rintro - w56 D56
         rintro _ rfl _ rfl _ rfl
         show OpOK _ _ _ _ _ _ _
         exact ok_gno rfl rfl rfl
       refine ⟨?_, ?_⟩
       · rintro - w57 D57
         rintro _ rfl _ rfl
         show OpOK _ _ _ _ _ _ _
         exact ok_pure (ro_pickT (v := .bool _) rfl rfl) rfl
       exact trivial
      case hend =>
       intro w58 D58
       rintro _ rfl v13 rfl _ rfl _ rfl _ rfl _ rfl v18 rfl _ rfl _ rfl _ rfl _ rfl _ rfl _ rfl _ rfl _ rfl _ rfl _ rfl _ rfl _ rfl _ rfl _ rfl _ rfl _ rfl _ rfl _ rfl
       show St _ _ _ _ _ _ _
       refine st_nil (nx_then ?_)
       refine cd_condT rfl ?_
       refine cd_seq (cd_region ?_)
       refine asb rfl ?_
       refine st_nil (nx_then (cd_ret (rt_block (rt_then (rt_then (rt_block (rt_then ?_)))))))
       refine res1 (v := .bool _) rfl rfl ?_
       refine ⟨⟨false, rfl, fun h => (by cases h), fun h => ?_⟩, (((hB.next E4).only O3 (hg4)).next D58)⟩
       obtain ⟨x1, x2, x3⟩ := h i hil
       exfalso
       first
         | omega
         | exact hnl (x3 (by omega))
    · apply cd_drawnD 25 [(12, eqp _), (13, eqp (.string (ds.getD i dd).1)), (14, eqp _), (15, eqp _), (16, eqp _), (17, eqp _), (18, eqp (.string (ds.getD i dd).1)), (19, eqp _), (20, eqp _), (21, eqp _), (22, eqp _), (23, eqp _), (24, eqp _), (25, eqp _), (26, eqp _), (27, eqp _), (28, eqp _), (29, eqp _), (30, eqp _), (31, eqp _), (32, eqp _), (33, eqp _), (34, eqp _), (35, eqp _), (36, eqp _)] (by repeat first | exact pq_body | refine pq_then ?_ | refine pq_block ?_) (by kernel_rfl) (by kernel_rfl) ⟨eqp_mono _, eqp_mono _, eqp_mono _, eqp_mono _, eqp_mono _, eqp_mono _, eqp_mono _, eqp_mono _, eqp_mono _, eqp_mono _, eqp_mono _, eqp_mono _, eqp_mono _, eqp_mono _, eqp_mono _, eqp_mono _, eqp_mono _, eqp_mono _, eqp_mono _, eqp_mono _, eqp_mono _, eqp_mono _, eqp_mono _, eqp_mono _, eqp_mono _, trivial⟩
      case hop =>
       refine ⟨?_, ?_⟩
       · rintro - w60 D60
         show OpOK _ _ _ _ _ _ _
         exact ok_pure (ro_fieldAddr SegWalks_f43_0 rfl) rfl
       refine ⟨?_, ?_⟩
       · rintro - w61 D61
         rintro _ rfl
         show OpOK _ _ _ _ _ _ _
         exact ok_pure (ro_load (v := .string (ds.getD i dd).1) SegWalks_g9 rfl ((P3.from_ D61).rd 0 rfl)) rfl
       refine ⟨?_, ?_⟩
       · rintro - w62 D62
         rintro v62_13 rfl
         show OpOK _ _ _ _ _ _ _
         exact ok_pure (ro_lenS (by kernel_rfl) rfl) rfl
       refine ⟨?_, ?_⟩
       · rintro - w63 D63
         rintro _ rfl
         show OpOK _ _ _ _ _ _ _
         exact ok_pure (ro_bf (ro_lss rfl rfl) (decide_eq_false (by omega))) rfl
       refine ⟨?_, ?_⟩
       · rintro - w64 D64
         rintro _ rfl
         show OpOK _ _ _ _ _ _ _
         exact ok_pure (ro_move (v := .bool _) rfl) rfl
       refine ⟨?_, ?_⟩
       · rintro - w65 D65
         rintro _ rfl
         show OpOK _ _ _ _ _ _ _
         exact ok_gpure rfl (ro_fieldAddr SegWalks_f43_0 rfl) rfl
       refine ⟨?_, ?_⟩
       · rintro - w66 D66
         rintro _ rfl _ rfl
         show OpOK _ _ _ _ _ _ _
         exact ok_gpure rfl (ro_load (v := .string (ds.getD i dd).1) SegWalks_g9 rfl ((P3.from_ D66).rd 0 rfl)) rfl
       refine ⟨?_, ?_⟩
       · rintro - w67 D67
         rintro _ rfl v67_18 rfl
         show OpOK _ _ _ _ _ _ _
         exact ok_gpure rfl (ro_lenS (by kernel_rfl) rfl) rfl
       refine ⟨?_, ?_⟩
       · rintro - w68 D68
         rintro _ rfl _ rfl
         show OpOK _ _ _ _ _ _ _
         exact ok_gpure rfl (ro_bf (ro_gtr rfl rfl) (decide_eq_false (by omega))) rfl
       refine ⟨?_, ?_⟩
       · rintro - w69 D69
         rintro _ rfl _ rfl
         show OpOK _ _ _ _ _ _ _
         exact ok_pure (ro_pickF (v := .bool _) rfl rfl) rfl
       refine ⟨?_, ?_⟩
       · rintro - w70 D70
         rintro _ rfl
         show OpOK _ _ _ _ _ _ _
         exact ok_pure (ro_move (v := .bool _) rfl) rfl
       refine ⟨?_, ?_⟩
       · rintro - w71 D71
         rintro _ rfl
         show OpOK _ _ _ _ _ _ _
         exact ok_gpure rfl (ro_move (v := .int _ _) rfl) rfl
       refine ⟨?_, ?_⟩
       · rintro - w72 D72
         rintro _ rfl _ rfl
         show OpOK _ _ _ _ _ _ _
         exact ok_gpure rfl (ro_bf (ro_gtr rfl rfl) (decide_eq_false (by omega))) rfl
       refine ⟨?_, ?_⟩
       · rintro - w73 D73
         rintro _ rfl _ rfl
         show OpOK _ _ _ _ _ _ _
         exact ok_gpure rfl (ro_move (v := .bool _) rfl) rfl
       refine ⟨?_, ?_⟩
       · rintro - w74 D74
         rintro _ rfl
         show OpOK _ _ _ _ _ _ _
         exact ok_gno rfl rfl rfl
       refine ⟨?_, ?_⟩
       · rintro - w75 D75
         rintro _ rfl
         show OpOK _ _ _ _ _ _ _
         exact ok_gno rfl rfl rfl
       refine ⟨?_, ?_⟩
       · rintro - w76 D76
         rintro _ rfl _ rfl
         show OpOK _ _ _ _ _ _ _
         exact ok_gno rfl rfl rfl
       refine ⟨?_, ?_⟩
       · rintro - w77 D77
         rintro _ rfl _ rfl _ rfl
         show OpOK _ _ _ _ _ _ _
         exact ok_gno rfl rfl rfl
       refine ⟨?_, ?_⟩
       · rintro - w78 D78
         rintro _ rfl _ rfl
         show OpOK _ _ _ _ _ _ _
         exact ok_gno rfl rfl rfl
       refine ⟨?_, ?_⟩
       · rintro - w79 D79
         rintro _ rfl _ rfl
         show OpOK _ _ _ _ _ _ _
         exact ok_gno rfl rfl rfl
       refine ⟨?_, ?_⟩
       · rintro - w80 D80
         rintro _ rfl
         show OpOK _ _ _ _ _ _ _
         exact ok_gno rfl rfl rfl
       refine ⟨?_, ?_⟩
       · rintro - w81 D81
         rintro _ rfl _ rfl
         show OpOK _ _ _ _ _ _ _
         exact ok_gno rfl rfl rfl
       refine ⟨?_, ?_⟩
       · rintro - w82 D82
         rintro _ rfl _ rfl _ rfl
         show OpOK _ _ _ _ _ _ _
         exact ok_gno rfl rfl rfl
       refine ⟨?_, ?_⟩
       · rintro - w83 D83
         rintro _ rfl _ rfl _ rfl
         show OpOK _ _ _ _ _ _ _
         exact ok_gpure rfl (ro_pickF (v := .bool _) rfl rfl) rfl
       refine ⟨?_, ?_⟩
       · rintro - w84 D84
         rintro _ rfl _ rfl
         show OpOK _ _ _ _ _ _ _
         exact ok_pure (ro_pickF (v := .bool _) rfl rfl) rfl
       exact trivial
      case hend =>
       intro w85 D85
       rintro _ rfl v13 rfl _ rfl _ rfl _ rfl _ rfl v18 rfl _ rfl _ rfl _ rfl _ rfl _ rfl _ rfl _ rfl _ rfl _ rfl _ rfl _ rfl _ rfl _ rfl _ rfl _ rfl _ rfl _ rfl _ rfl
       show St _ _ _ _ _ _ _
       refine st_nil (nx_then ?_)
       refine cd_condF rfl ?_
       refine cd_skip (nx_block (nx_then (cd_region ?_)))
       refine st_val (ro_addN (b := 1) rfl rfl (by omega)) ?_
       refine mvi rfl ?_
       refine st_nil ?_
       refine nx_cut (i + 1) ⟨(by first | rfl | (refine int_eq ?_; omega)), trivial⟩ (by (iterate 67 refine agr_cons rfl ?_); exact agr_rfl) ⟨?_, ?_⟩
       · have hoi : okI ds i := by first | exact ⟨by omega, by omega, fun h => absurd h (by omega)⟩ | exact ⟨by omega, by omega, fun _ => hlt⟩
         exact ⟨by omega, fun x hx => by
           rcases Nat.eq_or_lt_of_le (Nat.le_of_lt_succ hx) with e | e
           · subst e; exact hoi
           · exact hok x e, (((hB.next E4).only O3 (hg4)).next D85)⟩
       · show ds.length - (i + 1) < ds.length - i; omega
    apply cd_drawnD 25 [(12, eqp _), (13, eqp (.string (ds.getD i dd).1)), (14, eqp _), (15, eqp _), (16, eqp _), (17, eqp _), (18, eqp (.string (ds.getD i dd).1)), (19, eqp _), (20, eqp _), (21, eqp _), (22, eqp _), (23, eqp _), (24, eqp _), (25, eqp _), (26, eqp _), (27, eqp _), (28, eqp _), (29, eqp _), (30, eqp _), (31, eqp (.string (ds.getD (i - 1) dd).1)), (32, eqp _), (33, eqp (.string (ds.getD i dd).1)), (34, eqp _), (35, eqp _), (36, eqp _)] (by repeat first | exact pq_body | refine pq_then ?_ | refine pq_block ?_) (by kernel_rfl) (by kernel_rfl) ⟨eqp_mono _, eqp_mono _, eqp_mono _, eqp_mono _, eqp_mono _, eqp_mono _, eqp_mono _, eqp_mono _, eqp_mono _, eqp_mono _, eqp_mono _, eqp_mono _, eqp_mono _, eqp_mono _, eqp_mono _, eqp_mono _, eqp_mono _, eqp_mono _, eqp_mono _, eqp_mono _, eqp_mono _, eqp_mono _, eqp_mono _, eqp_mono _, eqp_mono _, trivial⟩
    case hop =>
     refine ⟨?_, ?_⟩
     · rintro - w87 D87
       show OpOK _ _ _ _ _ _ _
       exact ok_pure (ro_fieldAddr SegWalks_f43_0 rfl) rfl
     refine ⟨?_, ?_⟩
     · rintro - w88 D88
       rintro _ rfl
       show OpOK _ _ _ _ _ _ _
       exact ok_pure (ro_load (v := .string (ds.getD i dd).1) SegWalks_g9 rfl ((P3.from_ D88).rd 0 rfl)) rfl
     refine ⟨?_, ?_⟩
     · rintro - w89 D89
       rintro v89_13 rfl
       show OpOK _ _ _ _ _ _ _
       exact ok_pure (ro_lenS (by kernel_rfl) rfl) rfl
     refine ⟨?_, ?_⟩
     · rintro - w90 D90
       rintro _ rfl
       show OpOK _ _ _ _ _ _ _
       exact ok_pure (ro_bf (ro_lss rfl rfl) (decide_eq_false (by omega))) rfl
     refine ⟨?_, ?_⟩
     · rintro - w91 D91
       rintro _ rfl
       show OpOK _ _ _ _ _ _ _
       exact ok_pure (ro_move (v := .bool _) rfl) rfl
     refine ⟨?_, ?_⟩
     · rintro - w92 D92
       rintro _ rfl
       show OpOK _ _ _ _ _ _ _
       exact ok_gpure rfl (ro_fieldAddr SegWalks_f43_0 rfl) rfl
     refine ⟨?_, ?_⟩
     · rintro - w93 D93
       rintro _ rfl _ rfl
       show OpOK _ _ _ _ _ _ _
       exact ok_gpure rfl (ro_load (v := .string (ds.getD i dd).1) SegWalks_g9 rfl ((P3.from_ D93).rd 0 rfl)) rfl
     refine ⟨?_, ?_⟩
     · rintro - w94 D94
       rintro _ rfl v94_18 rfl
       show OpOK _ _ _ _ _ _ _
       exact ok_gpure rfl (ro_lenS (by kernel_rfl) rfl) rfl
     refine ⟨?_, ?_⟩
     · rintro - w95 D95
       rintro _ rfl _ rfl
       show OpOK _ _ _ _ _ _ _
       exact ok_gpure rfl (ro_bf (ro_gtr rfl rfl) (decide_eq_false (by omega))) rfl
     refine ⟨?_, ?_⟩
     · rintro - w96 D96
       rintro _ rfl _ rfl
       show OpOK _ _ _ _ _ _ _
       exact ok_pure (ro_pickF (v := .bool _) rfl rfl) rfl
     refine ⟨?_, ?_⟩
     · rintro - w97 D97
       rintro _ rfl
       show OpOK _ _ _ _ _ _ _
       exact ok_pure (ro_move (v := .bool _) rfl) rfl
     refine ⟨?_, ?_⟩
     · rintro - w98 D98
       rintro _ rfl
       show OpOK _ _ _ _ _ _ _
       exact ok_gpure rfl (ro_move (v := .int _ _) rfl) rfl
     refine ⟨?_, ?_⟩
     · rintro - w99 D99
       rintro _ rfl _ rfl
       show OpOK _ _ _ _ _ _ _
       exact ok_gpure rfl (ro_bt (ro_gtr rfl rfl) (decide_eq_true (by omega))) rfl
     refine ⟨?_, ?_⟩
     · rintro - w100 D100
       rintro _ rfl _ rfl
       show OpOK _ _ _ _ _ _ _
       exact ok_gpure rfl (ro_move (v := .bool _) rfl) rfl
     refine ⟨?_, ?_⟩
     · rintro - w101 D101
       rintro _ rfl
       show OpOK _ _ _ _ _ _ _
       exact ok_gpure rfl (ro_move (v := .slice _ _ _) rfl) rfl
     refine ⟨?_, ?_⟩
     · rintro - w102 D102
       rintro _ rfl
       show OpOK _ _ _ _ _ _ _
       exact ok_gpure rfl (ro_move (v := .int _ _) rfl) rfl
     refine ⟨?_, ?_⟩
     · rintro - w103 D103
       rintro _ rfl _ rfl
       show OpOK _ _ _ _ _ _ _
       exact ok_gpure rfl (ro_subN (b := 1) rfl rfl (by omega)) rfl
     refine ⟨?_, ?_⟩
     · rintro - w104 D104
       rintro _ rfl _ rfl _ rfl
       show OpOK _ _ _ _ _ _ _
       exact ok_gpure rfl (ro_indexAddrN SegWalks_e32 rfl rfl (by omega)) rfl
     refine ⟨?_, ?_⟩
     · rintro - w105 D105
       rintro _ rfl _ rfl
       show OpOK _ _ _ _ _ _ _
       exact ok_gpure rfl (ro_fieldAddr SegWalks_f43_0 rfl) rfl
     refine ⟨?_, ?_⟩
     · rintro - w106 D106
       rintro _ rfl _ rfl
       show OpOK _ _ _ _ _ _ _
       exact ok_gpure rfl (ro_load (v := .string (ds.getD (i - 1) dd).1) SegWalks_g9 rfl (cellF (((hB.next E4).only O3 (hg4)).next D106) (hcp (by omega)))) rfl
     refine ⟨?_, ?_⟩
     · rintro - w107 D107
       rintro _ rfl
       show OpOK _ _ _ _ _ _ _
       exact ok_gpure rfl (ro_fieldAddr SegWalks_f43_0 rfl) rfl
     refine ⟨?_, ?_⟩
     · rintro - w108 D108
       rintro _ rfl _ rfl
       show OpOK _ _ _ _ _ _ _
       exact ok_gpure rfl (ro_load (v := .string (ds.getD i dd).1) SegWalks_g9 rfl ((P3.from_ D108).rd 0 rfl)) rfl
     refine ⟨?_, ?_⟩
     · rintro - w109 D109
       rintro _ rfl v109_31 rfl v109_33 rfl
       show OpOK _ _ _ _ _ _ _
       exact ok_gpure rfl (ro_geqS rfl rfl) rfl
     refine ⟨?_, ?_⟩
     · rintro - w110 D110
       rintro _ rfl _ rfl _ rfl
       show OpOK _ _ _ _ _ _ _
       exact ok_gpure rfl (ro_pickT (v := .bool _) rfl rfl) rfl
     refine ⟨?_, ?_⟩
     · rintro - w111 D111
       rintro _ rfl _ rfl
       show OpOK _ _ _ _ _ _ _
       exact ok_pure (ro_pickF (v := .bool _) rfl rfl) rfl
     exact trivial
    case hend =>
     intro w112 D112
     rintro _ rfl v13 rfl _ rfl _ rfl _ rfl _ rfl v18 rfl _ rfl _ rfl _ rfl _ rfl _ rfl _ rfl _ rfl _ rfl _ rfl _ rfl _ rfl _ rfl v31 rfl _ rfl v33 rfl _ rfl _ rfl _ rfl
     show St _ _ _ _ _ _ _
     refine st_nil (nx_then ?_)
     refine cd_cond rfl (fun Q113 => ?_) (fun Q113 => ?_)
     · with_reducible replace Q113 := bn_t Q113
       have hnl : ¬ sLt (ds.getD (i - 1) dd).1 (ds.getD i dd).1 := fun h => by
         have h9 := (sLt_dec _ _).2 h
         simp_all
       refine cd_seq (cd_region ?_)
       refine asb rfl ?_
       refine st_nil (nx_then (cd_ret (rt_block (rt_then (rt_then (rt_block (rt_then ?_)))))))
       refine res1 (v := .bool _) rfl rfl ?_
       refine ⟨⟨false, rfl, fun h => (by cases h), fun h => ?_⟩, (((hB.next E4).only O3 (hg4)).next D112)⟩
       obtain ⟨x1, x2, x3⟩ := h i hil
       exfalso
       first
         | omega
         | exact hnl (x3 (by omega))
     with_reducible replace Q113 := bn_f Q113
     have hlt : sLt (ds.getD (i - 1) dd).1 (ds.getD i dd).1 := (sLt_dec _ _).1 (by simpa using Q113)
     refine cd_skip (nx_block (nx_then (cd_region ?_)))
     refine st_val (ro_addN (b := 1) rfl rfl (by omega)) ?_
     refine mvi rfl ?_
     refine st_nil ?_
     refine nx_cut (i + 1) ⟨(by first | rfl | (refine int_eq ?_; omega)), trivial⟩ (by (iterate 67 refine agr_cons rfl ?_); exact agr_rfl) ⟨?_, ?_⟩
     · have hoi : okI ds i := by first | exact ⟨by omega, by omega, fun h => absurd h (by omega)⟩ | exact ⟨by omega, by omega, fun _ => hlt⟩
       exact ⟨by omega, fun x hx => by
         rcases Nat.eq_or_lt_of_le (Nat.le_of_lt_succ hx) with e | e
         · subst e; exact hoi
         · exact hok x e, (((hB.next E4).only O3 (hg4)).next D112)⟩
     · show ds.length - (i + 1) < ds.length - i; omega
  with_reducible replace Q2 := of_decide_eq_false Q2
  refine cd_exit ?_
  refine ex_then (ex_then (ex_block (nx_then (cd_seq (cd_region ?_)))))
  refine asb rfl ?_
  refine st_nil (nx_then (cd_ret ?_))
  refine res1 (v := .bool _) rfl rfl ?_
  exact ⟨⟨true, rfl, fun _ x hx => hok x (by omega), fun _ => rfl⟩, hB⟩
set_option maxHeartbeats 2000000 in
theorem total_rt (A : Option Addr) (c n : Nat) (ds : List Dc) (w : World) (hr : RowK 2 dV w A ds) (hn : n = ds.length) (hl : n ≤ 100000000) :
    Rt Tryd.prog 23 [.slice A n c] w (fun v w' => (∃ (m : Nat) (b : Bool), v = .tuple #[.int .i64 (m : Nat), .bool b] ∧ (b = true ↔ DFit ds) ∧ (b = true → m = dsz ds)) ∧ From w w') := by
  refine enter (n := 28) Tryd.func23 rfl rfl rfl ?_
  refine cd_seq (cd_region ?_)
  refine asi rfl ?_
  refine asb rfl ?_
  refine st_nil (nx_then (cd_seq (cd_seq (cd_region ?_))))
  refine mvs rfl ?_
  refine st_val (ro_len SegWalks_l32 rfl) ?_
  refine st_val (ro_gtr rfl rfl) ?_
  refine st_nil (nx_then ?_)
  refine cd_cond rfl (fun Q1 => ?_) (fun Q1 => ?_)
  · with_reducible replace Q1 := of_decide_eq_true Q1
    refine cd_seq (cd_region ?_)
    refine asi rfl ?_
    refine asb rfl ?_
    refine st_nil (nx_then (cd_ret (rt_then ?_)))
    refine res2 (v := .int _ _) (v' := .bool _) rfl rfl rfl ?_
    refine ⟨⟨0, false, rfl, ⟨fun h => (by cases h), fun h => ?_⟩, fun h => (by cases h)⟩, From.rfl_⟩
    have := h.1
    omega
  with_reducible replace Q1 := of_decide_eq_false Q1
  refine cd_skip (nx_then (cd_seq (cd_seq (cd_region ?_))))
  refine mvs rfl ?_
  refine st_val (ro_len SegWalks_l32 rfl) ?_
  refine mvi rfl ?_
  refine st_nil (nx_then (cd_block ?_))
  refine cd_loop (G := Nat) [3, 5, 12, 13, 14, 15, 16, 17, 18, 19, 20, 21, 22, 23, 24] (fun i => [(2, .int .i64 (dsz (ds.take i) : Nat)), (11, .int .i64 (i : Nat))]) (fun i w' => i ≤ ds.length ∧ (∀ x, x < i → (ds.getD x dd).2.size ≤ 2048) ∧ dsz (ds.take i) ≤ i * 2048 ∧ From w w') (fun i => ds.length - i) (0) ⟨rfl, rfl, trivial⟩ ?_ ?_
  · exact ⟨Nat.zero_le _, fun x h => absurd h (by omega), by simp [dsz], From.rfl_⟩
  rintro i ρ2 w2 ⟨hi, hok, hdz, hB⟩
  refine cd_seq (cd_region ?_)
  refine st_val (ro_lss rfl rfl) ?_
  refine st_nil (nx_then (cd_seq ?_))
  refine cd_cond rfl (fun Q3 => ?_) (fun Q3 => ?_)
  · with_reducible replace Q3 := of_decide_eq_true Q3
    obtain ⟨bd, od, rfl, hcd⟩ := hr (by omega)
    have hil : i < ds.length := by omega
    have hce := hcd i hil
    obtain ⟨d, hd⟩ : ∃ d, ds[i] = d := ⟨_, rfl⟩
    have hdi : ds.getD i dd = d := by rw [getD_get hil, hd]
    rw [hd] at hce
    refine cd_skip (nx_then (cd_seq (cd_block (cd_seq (cd_region ?_)))))
    refine st_val (ro_indexAddrN SegWalks_e32 rfl rfl (by omega)) ?_
    refine st_val (ro_loadA (cs := [_, _]) SegWalks_g43 SegWalks_z43 rfl (by exact rangeF hB hce)) ?_
    refine st_alloc SegWalks_o43 ?_
    intro b5 w4 E5 hb5 hk5
    have hg5 : w.heap.size ≤ b5 := by rw [hb5]; exact (hB).size
    refine st_putW (vs := [_, _]) SegWalks_z43 rfl rfl (by simp [Value.oneCell']) (hk5) rfl ?_
    intro w5 O5 P5
    refine st_nil (nx_then (cd_seq (cd_seq (cd_region ?_))))
    refine st_val (ro_fieldAddr SegWalks_f43_1 rfl) ?_
    refine st_val (ro_load SegWalks_g9 rfl (by exact (P5.from_ From.rfl_).rd 1 rfl)) ?_
    refine st_val (ro_lenS (by kernel_rfl) rfl) ?_
    refine st_val (ro_gtr rfl rfl) ?_
    refine st_nil (nx_then ?_)
    refine cd_cond rfl (fun Q6 => ?_) (fun Q6 => ?_)
    · with_reducible replace Q6 := of_decide_eq_true Q6
      refine cd_seq (cd_region ?_)
      refine asi rfl ?_
      refine asb rfl ?_
      refine st_nil (nx_then (cd_ret (rt_then (rt_block (rt_then (rt_then (rt_block (rt_then ?_))))))))
      refine res2 (v := .int _ _) (v' := .bool _) rfl rfl rfl ?_
      refine ⟨⟨0, false, rfl, ⟨fun h => (by cases h), fun h => ?_⟩, fun h => (by cases h)⟩, ((hB.next E5).only O5 (hg5))⟩
      have h2 := h.2.1 d (by rw [← hd]; exact List.getElem_mem hil)
      omega
    with_reducible replace Q6 := of_decide_eq_false Q6
    refine cd_skip (nx_then (cd_region ?_))
    refine mvi rfl ?_
    refine st_val (ro_fieldAddr SegWalks_f43_1 rfl) ?_
    refine st_val (ro_load SegWalks_g9 rfl (by exact (P5.from_ From.rfl_).rd 1 rfl)) ?_
    refine st_val (ro_lenS (by kernel_rfl) rfl) ?_
    refine st_val (ro_addN rfl rfl (by omega)) ?_
    refine asi rfl ?_
    refine st_nil (nx_block (nx_then (cd_region ?_)))
    refine st_val (ro_addN (b := 1) rfl rfl (by omega)) ?_
    refine mvi rfl ?_
    refine st_nil ?_
    refine nx_cut (i + 1) ⟨(int_eq (by rw [dsz_take hil, hdi])), rfl, trivial⟩ (by (iterate 33 refine agr_cons rfl ?_); exact agr_rfl) ⟨?_, ?_⟩
    · exact ⟨by omega, fun x hx => by
        rcases Nat.eq_or_lt_of_le (Nat.le_of_lt_succ hx) with e | e
        · subst e; rw [hdi]; omega
        · exact hok x e, by rw [dsz_take hil, hdi]; omega, ((hB.next E5).only O5 (hg5))⟩
    · show ds.length - (i + 1) < ds.length - i; omega
  with_reducible replace Q3 := of_decide_eq_false Q3
  refine cd_exit ?_
  refine ex_then (ex_then (ex_block (nx_then (cd_seq (cd_region ?_)))))
  refine mvi rfl ?_
  refine mvi rfl ?_
  refine st_val (ro_leq rfl rfl) ?_
  refine asi rfl ?_
  refine asb rfl ?_
  refine st_nil (nx_then (cd_ret ?_))
  refine res2 (v := .int _ _) (v' := .bool _) rfl rfl rfl ?_
  obtain rfl : i = ds.length := by omega
  rw [List.take_length] at hdz ⊢
  refine ⟨⟨dsz ds, _, rfl, ?_, fun _ => rfl⟩, hB⟩
  rw [decide_eq_true_iff]
  refine ⟨fun h => ⟨by omega, fun d hd => ?_, by omega⟩, fun h => by have := h.2.2; omega⟩
  obtain ⟨x, hx, rfl⟩ := List.getElem_of_mem hd
  have := hok x hx
  rwa [getD_get hx] at this
set_option maxHeartbeats 400000 in
theorem cloneD (A : Option Addr) (c n : Nat) (xs : List Value) (w : World) (hx : xs.length = n * 2) (hr : 0 < n → ∃ b o, A = some ⟨b, o, none⟩ ∧ w.rangeAt b o xs) (hn0 : A = none → n = 0 ∧ c = 0) (h1 : ∀ u ∈ xs, u.oneCell' = true) (hl : n ≤ 100000000000) :
    Rt Tryd.prog 17 [.slice A n c] w (fun v w' => (∃ A' c', v = .slice A' n c' ∧ w'.ownsRow w.heap.size 43 2 (.slice A' n c') n xs) ∧ From w w') := by
  refine enter (n := 8) Tryd.func17 rfl rfl rfl ?_
  refine cd_seq (cd_region ?_)
  refine ass rfl ?_
  refine st_nil (nx_then (cd_seq (cd_seq (cd_region ?_))))
  refine mvs rfl ?_
  refine st_val (ro_eqlNilS SegWalks_u32 rfl rfl) ?_
  refine st_nil (nx_then ?_)
  refine cd_cond rfl (fun Q1 => ?_) (fun Q1 => ?_)
  · (try first | (replace Q1 := bn_t Q1; trace "@MK N cloneD:c4+ 1.1") | (replace Q1 := bn_f Q1; trace "@MK N cloneD:c4+ 1.2"))
    (try first | (replace Q1 := bx_t Q1; trace "@MK N cloneD:c4+ 2.1") | (replace Q1 := bx_f Q1; trace "@MK N cloneD:c4+ 2.2") | (replace Q1 := be_t Q1; trace "@MK N cloneD:c4+ 2.3") | (replace Q1 := be_f Q1; trace "@MK N cloneD:c4+ 2.4") | (replace Q1 := of_decide_eq_true Q1; trace "@MK N cloneD:c4+ 2.5") | (replace Q1 := of_decide_eq_false Q1; trace "@MK N cloneD:c4+ 2.6"))
    obtain rfl : A = none := Option.isNone_iff_eq_none.1 Q1
    obtain ⟨rfl, rfl⟩ := hn0 rfl
    obtain rfl : xs = [] := List.eq_nil_of_length_eq_zero (by omega)
    refine cd_seq (cd_region ?_)
    refine ass rfl ?_
    refine st_nil (nx_then (cd_ret (rt_then ?_)))
    refine res1 (v := .slice _ _ _) rfl rfl ?_
    exact ⟨⟨none, 0, rfl, World.ownsRow_nil _ _ _ _⟩, From.rfl_⟩
  (try first | (replace Q1 := bn_t Q1; trace "@MK N cloneD:c4- 1.1") | (replace Q1 := bn_f Q1; trace "@MK N cloneD:c4- 1.2"))
  (try first | (replace Q1 := bx_t Q1; trace "@MK N cloneD:c4- 2.1") | (replace Q1 := bx_f Q1; trace "@MK N cloneD:c4- 2.2") | (replace Q1 := be_t Q1; trace "@MK N cloneD:c4- 2.3") | (replace Q1 := be_f Q1; trace "@MK N cloneD:c4- 2.4") | (replace Q1 := of_decide_eq_true Q1; trace "@MK N cloneD:c4- 2.5") | (replace Q1 := of_decide_eq_false Q1; trace "@MK N cloneD:c4- 2.6"))
  have hA4 : A = none → c = 0 := fun h => by rw [h] at Q1; cases Q1
  refine cd_skip (nx_then (cd_seq (cd_region ?_)))
  refine st_lit0 SegWalks_q32 _ (From.rfl_.size) ?_
  intro b5 w2 E5 hb5 ho5
  refine mvs rfl ?_
  refine st_append (a0 := w) SegWalks_q32 rfl (by decide) rfl ho5 (From.rfl_.next E5) rfl hx (fun h => (let ⟨b, o, hA, hc⟩ := hr h; ⟨b, o, hA, rangeF (From.rfl_.next E5) hc⟩)) hA4 h1 (by omega) (by omega) ?_
  intro A7 c7 w3 ho7 B7 hg7
  refine ass rfl ?_
  refine st_nil (nx_then (cd_ret ?_))
  refine res1 (v := .slice _ _ _) rfl rfl ?_
  exact ⟨⟨A7, c7, by rw [Nat.zero_add], by simpa using ho7⟩, B7⟩
theorem clone_d (A : Option Addr) (c n : Nat) (ds : List Dc) (w : World) (hr : RowK 2 dV w A ds) (hn : n = ds.length) (hn0 : A = none → n = 0 ∧ c = 0) (hl : n ≤ 100000000) : Rt Tryd.prog 17 [.slice A n c] w fun v w' => (∃ A' c', v = .slice A' n c' ∧ w'.ownsRow w.heap.size 43 2 (.slice A' n c') n (ds.flatMap dV)) ∧ From w w' :=
  cloneD A c n (ds.flatMap dV) w (by rw [flat_len dV_len, hn]) (fun h => hr.flat dV_len (by omega)) hn0 (dV_one ds) (by omega)
end Go.Proofs.YtglndihdhaaccaaDoor

namespace Go.Proofs.YtglndihdhaaccaaDoor
open Go.RowKit Go.ChangeShapes Go.WideShapes Go.ChangeAt
/-- rows in blocks of their own -/
def Apart (A B : Option Addr) : Prop := ∀ p, A.map (·.block) = some p → ∀ q, B.map (·.block) = some q → p ≠ q
theorem Apart.symm {A B : Option Addr} (h : Apart A B) : Apart B A := fun p hp q hq e => h q hq p hp e.symm
/-- an own row behind a change of another's block -/
theorem own_aside {w w' : World} {base e s n c : Nat} {A B : Option Addr} {xs : List Value} (h : w.ownsRow base e s (.slice A n c) n xs) (hg : w.grownBy w' (B.map (·.block))) (hne : Apart B A) : w'.ownsRow base e s (.slice A n c) n xs := by
  refine ⟨h.1, ?_⟩
  rcases h.2 with h0 | ⟨g, cap, cur, h1, h2, h3, h4⟩
  · exact .inl h0
  · refine .inr ⟨g, cap, cur, h1, h2, ?_, h4⟩
    simp only [Value.slice.injEq] at h1
    obtain ⟨rfl, _, _⟩ := h1
    have hlt : g < w.heap.size := by
      rcases Nat.lt_or_ge g w.heap.size with a | a
      · exact a
      · rw [Array.getElem?_eq_none a] at h3; cases h3
    exact (hg.block g hlt fun e => hne g e.symm g rfl rfl).trans h3
theorem Apart.new {A A' B : Option Addr} {N : Nat} (h : Apart A B) (hB : ∀ q, B.map (·.block) = some q → q < N) (hL : A'.map (·.block) = A.map (·.block) ∨ A'.map (·.block) = some N) : Apart A' B := fun p hp q hq => by
  rcases hL with e | e
  · exact h p (e ▸ hp) q hq
  · rw [e] at hp
    cases hp
    have := hB q hq
    omega
theorem Apart.fresh {A B : Option Addr} {w : World} {base e s n c : Nat} {xs : List Value} (h : w.ownsRow base e s (.slice A n c) n xs) (hB : ∀ q, B.map (·.block) = some q → w.heap.size ≤ q) : Apart A B := fun p hp q hq e => by
  have h1 := (own_at h p hp).2
  have h2 := hB q hq
  omega
theorem own_none {w : World} {base e s n c : Nat} {xs : List Value} (h : w.ownsRow base e s (.slice none n c) n xs) : c = 0 := by
  rcases h.2 with ⟨h1, _⟩ | ⟨g, cap, cur, hv, _⟩
  · simp only [Value.slice.injEq] at h1; omega
  · simp only [Value.slice.injEq] at hv; cases hv.1
theorem own_none0 {w : World} {base e s n c : Nat} {xs : List Value} (h : w.ownsRow base e s (.slice none n c) n xs) : n = 0 := by
  rcases h.2 with ⟨h1, _⟩ | ⟨g, cap, cur, hv, _⟩
  · simp only [Value.slice.injEq] at h1; omega
  · simp only [Value.slice.injEq] at hv; cases hv.1
theorem own_apart {w : World} {b1 b2 e1 e2 s1 s2 n1 n2 c1 c2 : Nat} {A1 A2 : Option Addr} {xs1 xs2 : List Value} (h1 : w.ownsRow b1 e1 s1 (.slice A1 n1 c1) n1 xs1) (h2 : w.ownsRow b2 e2 s2 (.slice A2 n2 c2) n2 xs2) (hne : e1 ≠ e2) : Apart A1 A2 := fun p hp q hq e => by
  rcases h1.2 with ⟨k1, _⟩ | ⟨g1, cap1, cur1, k1, _, k2, _⟩
  · simp only [Value.slice.injEq] at k1; rw [k1.1] at hp; cases hp
  · rcases h2.2 with ⟨j1, _⟩ | ⟨g2, cap2, cur2, j1, _, j2, _⟩
    · simp only [Value.slice.injEq] at j1; rw [j1.1] at hq; cases hq
    · simp only [Value.slice.injEq] at k1 j1
      rw [k1.1] at hp
      rw [j1.1] at hq
      cases hp
      cases hq
      have e : g1 = g2 := e
      rw [e, j2] at k2
      simp only [Option.some.injEq, Obj.cells.injEq] at k2
      exact hne k2.2.1.symm
section
variable {P : Program} {ops : Array Oper} {Q : Exit → Act → World → Prop} {rest : List Oper} {n : Fr} {L : List (Nat × Value)} {w : World} {ty : TypeId} {pos : String} {after : Array Edge} {d : Nat} {t : TypeId} {s x y : Operand}
theorem st_appendL {base : Nat} {A A2 : Option Addr} {m j cap c2 e size by_ : Nat} {z : Value} {xs news : List Value} (hq : litQ P t = some (e, size, by_, z)) (hzs : z.cells.size = size) (hs0 : 0 < size)
    (hs : ev n L s = .slice A m cap) (hown : w.ownsRow base e size (.slice A m cap) m xs) (hB : base ≤ w.heap.size)
    (hx : ev n L x = .slice A2 j c2) (hl : news.length = j * size) (hsrc : ∃ b o, A2 = some ⟨b, o, none⟩ ∧ w.rangeAt b o news) (h1 : ∀ u ∈ news, u.oneCell' = true) (h63 : m + j ≤ 9223372036854775807) (hby : (m + j) * by_ ≤ 140737488355328)
    (k : ∀ A' cap' w', w'.ownsRow base e size (.slice A' (m + j) cap') (m + j) (xs ++ news) → w.grownBy w' (A.map (·.block)) → (A'.map (·.block) = A.map (·.block) ∨ A'.map (·.block) = some w.heap.size) → St P ops Q rest n ((d, .slice A' (m + j) cap') :: L) w') :
    St P ops Q (⟨some d, .call { callee := .builtin .append, args := #[s, x], argTypes := #[t, t] }, ty, pos, after, none⟩ :: rest) n L w := by
  obtain ⟨A', cap', w', hR, h2, h3, h4⟩ := ro_appendL (P := P) (ρ := ev n L) (s := s) (x := x) (w := w) hq hzs hs0 hs hown hB hx hl hsrc h1 h63 hby
  exact st_val hR (k A' cap' w' h2 h3 h4)
/-- one element of two cells -/
theorem st_litK2 {e by_ : Nat} {z v z0 z1 u0 u1 : Value} (hq : litQ P t = some (e, 2, by_, z)) (hz : z.cells = #[z0, z1]) (hx : ev n L x = v) (hv : v.cells = #[u0, u1])
    (k : ∀ g w', From w w' → g = w.heap.size → Blk w' g e #[u0, u1] → St P ops Q rest n ((d, .slice (some ⟨g, 0, none⟩) 1 1) :: L) w') : St P ops Q (⟨some d, .buildSlice t 1 #[(0, x)], ty, pos, after, none⟩ :: rest) n L w := by
  refine st_lit (l := [(0, x)]) (cells := #[u0, u1]) hq rfl rfl ?_ k
  have e1 : (Array.range (1 * 2)).map (z.cells[· % z.cells.size]!) = #[z0, z1] := by
    rw [hz, show Array.range (1 * 2) = #[0, 1] from rfl]
    simp
  rw [e1]
  simp [Instr.fill, hx, hv]
end
end Go.Proofs.YtglndihdhaaccaaDoor

namespace Go.Proofs.YtglndihdhaaccaaDoor
open Go.RowKit
open Go.ChangeShapes Go.WideShapes Go.ChangeAt
open Go.Proofs.YtglndihdhaaccaaDoor.SA
theorem SegMake_m60 : makeQ Tryd.prog 60 = some (3, 8, (.int .i64 0)) := by kernel_rfl
theorem SegMake_q60 : litQ Tryd.prog 60 = some (3, 1, 8, (.int .i64 0)) := by kernel_rfl
theorem SegMake_k22 : callable Tryd.prog 22 = true := by kernel_rfl
theorem SegMake_k23 : callable Tryd.prog 23 = true := by kernel_rfl
theorem SegMake_l32 : (elemQ Tryd.prog 32).isSome = true := by kernel_rfl
theorem SegMake_e32 : elemQ Tryd.prog 32 = some (43, 2) := by kernel_rfl
theorem SegMake_g43 : aggQ Tryd.prog 43 = some true := by kernel_rfl
theorem SegMake_z43 : sizeQ Tryd.prog 43 = some 2 := by kernel_rfl
theorem SegMake_o43 : zeroQ Tryd.prog 43 = some (.agg #[.string ⟨#[]⟩, .string ⟨#[]⟩]) := by kernel_rfl
theorem SegMake_f43_1 : fieldQ Tryd.prog 43 1 = some 1 := by kernel_rfl
theorem SegMake_g9 : aggQ Tryd.prog 9 = some false := by kernel_rfl
theorem SegMake_k24 : callable Tryd.prog 24 = true := by kernel_rfl
theorem SegMake_k25 : callable Tryd.prog 25 = true := by kernel_rfl
theorem SegMake_k26 : callable Tryd.prog 26 = true := by kernel_rfl
theorem SegMake_k17 : callable Tryd.prog 17 = true := by kernel_rfl
theorem SegMake_b49_0_1_2_3 : ∀ (a0 : Option Addr) (a1 : Option Addr) (a2 a3 : Nat) (a4 : Option Addr) (a5 : Int), Tryd.prog.built 49 [(0, .pointer a0), (1, .slice a1 a2 a3), (2, .pointer a4), (3, .int .i64 a5)] = some #[.pointer a0, .slice a1 a2 a3, .pointer a4, .int .i64 a5] := by intros; kernel_rfl
theorem rowRange {w : World} {g : Nat} {l : List Int} (h : RowOf iV w (some ⟨g, 0, none⟩) l) : w.rangeAt g 0 (l.map iV) := fun j v hv => by
  have hj : j < l.length := by have := (List.getElem?_eq_some_iff.1 hv).1; rwa [List.length_map] at this
  obtain ⟨b, o, e, hc⟩ := h (by omega)
  cases e
  rw [hc j hj]
  rw [List.getElem?_map, List.getElem?_eq_getElem hj] at hv
  exact hv
/-! ### lengths and offsets -/
def lens (ds : List Dc) : List Int := ds.map fun d => ((d.2.size : Nat) : Int)
theorem lens_len (ds : List Dc) : (lens ds).length = ds.length := List.length_map _
theorem lens_take {ds : List Dc} {k : Nat} (h : k < ds.length) : (lens (ds.take (k + 1))).map iV = (lens (ds.take k)).map iV ++ [iV (((ds.getD k dd).2.size : Nat) : Int)] := by
  unfold lens
  rw [List.take_succ_eq_append_getElem h, List.map_append, List.map_append, getD_get h]
  rfl
theorem lens_get {ds : List Dc} {k : Nat} (h : k < (lens ds).length) : (lens ds)[k] = (((ds.getD k dd).2.size : Nat) : Int) := by
  have h2 : k < ds.length := by rwa [lens_len] at h
  rw [getD_get h2]
  simp [lens]
theorem syms_take {ds : List Dc} {k : Nat} (h : k < ds.length) : syms (ds.take (k + 1)) = syms (ds.take k) ++ txt (ds.getD k dd).2 ++ [0] := by
  rw [List.take_succ_eq_append_getElem h, syms_app, getD_get h, List.append_assoc]
  rfl
theorem cI_app (a b : List Nat) : cI (a ++ b) = cI a ++ cI b := List.map_append ..
theorem st_lens {ds : List Dc} : ∀ {k : Nat}, k ≤ ds.length → Bd.st (lens ds) k = ((dsz (ds.take k) + k : Nat) : Int)
  | 0, _ => by simp [Bd.st, dsz]
  | k + 1, h => by
    rw [Bd.st_succ (by rw [lens_len]; omega), st_lens (Nat.le_of_succ_le h), lens_get, dsz_take (by omega)]
    omega
theorem lens_gd {ds : List Dc} (h : DFit ds) : Bd.Gd (lens ds) := by
  refine ⟨fun i hi => by rw [lens_get]; omega, by rw [lens_len]; exact h.1, fun i hi => ?_⟩
  have h2 : i < ds.length := by rwa [lens_len] at hi
  have h3 := dsz_take h2
  have h4 := dsz_le (ds := ds) (i + 1)
  have h5 := h.2.2
  have h6 := h.1
  rw [lens_get, st_lens (by omega)]
  omega
theorem chk_syms {ds : List Dc} (h : DFit ds) : chkW 257 (cI (syms ds)) = 0 := by
  have hl := syms_len ds
  have h5 := h.2.2
  have h6 := h.1
  unfold chkW
  rw [if_neg (by omega), if_neg, if_neg (by rw [List.length_map]; omega)]
  rw [List.any_eq_true]
  rintro ⟨x, hx, hb⟩
  obtain ⟨y, hy, rfl⟩ := List.mem_map.1 hx
  have := syms_lt ds y hy
  have := of_decide_eq_true hb
  omega
/-- a segment of these documents; all that it holds lies at base or above -/
def SegAt (w : World) (base s : Nat) (ds : List Dc) : Prop := base ≤ s ∧ ∃ (x bd a : Nat) (B F : List Nat) (A : Option Addr) (c : Nat), Blk w s 49 #[.pointer (some ⟨x, 0, none⟩), .slice A ds.length c, .pointer (some ⟨bd, 0, none⟩), .int .i64 ((dsz ds : Nat) : Int)] ∧
  FmAt w base x 257 a (syms ds) B F ∧ Bd.BAt w base bd (lens ds) ∧ w.ownsRow base 43 2 (.slice A ds.length c) ds.length (ds.flatMap dV) ∧ DOrd ds ∧ DFit ds
theorem SegAt.from_ {w w' : World} {base s : Nat} {ds : List Dc} (h : SegAt w base s ds) (hF : From w w') : SegAt w' base s ds := by
  obtain ⟨h0, x, bd, a, B, F, A, c, h1, h2, h3, h4, h5⟩ := h
  exact ⟨h0, x, bd, a, B, F, A, c, h1.from_ hF, h2.from_ hF, h3.from_ hF, h4.kept_from hF, h5⟩
theorem SegAt.le {w : World} {base base2 s : Nat} {ds : List Dc} (h : SegAt w base s ds) (hl : base2 ≤ base) : SegAt w base2 s ds := by
  obtain ⟨h0, x, bd, a, B, F, A, c, h1, h2, h3, h4, h5⟩ := h
  exact ⟨by omega, x, bd, a, B, F, A, c, h1, h2.le hl, h3.le hl, own_le h4 hl, h5⟩
theorem SegAt.docs {w : World} {base s : Nat} {ds : List Dc} (h : SegAt w base s ds) : DOrd ds ∧ DFit ds := by
  obtain ⟨h0, x, bd, a, B, F, A, c, h1, h2, h3, h4, h5⟩ := h
  exact h5
def NewS (w' : World) (base : Nat) (ds : List Dc) (v : Value) : Prop := (docE ds ≠ 0 ∧ v = .tuple #[.pointer none, .int .i64 (docE ds)]) ∨ (docE ds = 0 ∧ ∃ s, v = .tuple #[.pointer (some ⟨s, 0, none⟩), .int .i64 0] ∧ SegAt w' base s ds)
theorem bnew_n (A : Option Addr) (c n : Nat) (L : List Int) (w : World) (hr : RowOf iV w A L) (hG : Bd.Gd L) (hn : n = L.length) : Rt Tryd.prog 25 [.slice A n c] w fun v w' => (∃ b, v = .tuple #[.pointer (some ⟨b, 0, none⟩), .int .i64 0] ∧ Bd.BAt w' w.heap.size b L) ∧ From w w' := by
  subst hn
  have hl := hG.len
  refine (Bd.new_rt A c L w hr (fun x hx => ?_) (by omega)).mono fun v w' h => ?_
  · obtain ⟨i, hi, rfl⟩ := List.getElem_of_mem hx
    have h1 := hG.pos i hi
    have h2 := hG.fit i hi
    have h3 := hG.st (k := i) (by omega)
    omega
  · obtain ⟨h, hF⟩ := h
    rcases h with ⟨hne, _⟩ | ⟨_, b, rfl, hb⟩
    · exact absurd (Bd.lens0 hG) hne
    · exact ⟨⟨b, rfl, hb⟩, hF⟩
theorem fbuild_n (A : Option Addr) (c n : Nat) (ds : List Dc) (w : World) (hr : RowOf iV w A (cI (syms ds))) (hn : n = (syms ds).length) (h : DFit ds) : Rt Tryd.prog 26 [.int .i64 257, .slice A n c] w fun v w' => (∃ b a B F, v = .tuple #[.pointer (some ⟨b, 0, none⟩), .int .i64 0] ∧ FmAt w' w.heap.size b 257 a (syms ds) B F) ∧ From w w' := by
  have hl := syms_len ds
  have h5 := h.2.2
  have h6 := h.1
  refine (build_rt 257 A c n (cI (syms ds)) w hr (by rw [List.length_map]; exact hn) (by omega)).mono fun v w' h7 => ?_
  obtain ⟨h7, hF⟩ := h7
  refine ⟨?_, hF⟩
  rcases h7 with ⟨h8, _⟩ | ⟨_, K, b, a, L, B, F, hK, hL, _, hf, rfl⟩
  · exact absurd (chk_syms h) h8
  · obtain rfl : K = 257 := by omega
    obtain rfl := cI_inj hL
    exact ⟨b, a, B, F, rfl, hf⟩
set_option maxHeartbeats 4000000 in
theorem new_s (A : Option Addr) (c n : Nat) (ds : List Dc) (w : World) (hr : RowK 2 dV w A ds) (hn : n = ds.length) (hl : n ≤ 100000000) (hn0 : A = none → n = 0 ∧ c = 0) :
    Rt Tryd.prog 15 [.slice A n c] w (fun v w' => NewS w' w.heap.size ds v ∧ From w w') := by
  refine enter (n := 74) Tryd.func15 rfl rfl rfl ?_
  refine cd_seq (cd_region ?_)
  refine asp rfl ?_
  refine asi rfl ?_
  refine st_nil (nx_then (cd_seq (cd_seq (cd_region ?_))))
  refine mvs rfl ?_
  refine st_call SegMake_k22 (ordered_rt A c n ds _ (hr.from_ From.rfl_) hn hl) ?_
  rintro v14 w1 ⟨⟨b14, rfl, hb14⟩, E14⟩
  refine st_val (ro_not rfl) ?_
  refine st_nil (nx_then ?_)
  refine cd_cond rfl (fun Q2 => ?_) (fun Q2 => ?_)
  · with_reducible replace Q2 := bn_t Q2
    have hno : ¬ DOrd ds := fun h => by have := hb14.2 h; simp_all
    refine cd_seq (cd_region ?_)
    refine asp rfl ?_
    refine asi rfl ?_
    refine st_nil (nx_then (cd_ret (rt_then ?_)))
    refine res2 (v := .pointer _) (v' := .int _ _) rfl rfl rfl ?_
    exact ⟨.inl ⟨by rw [doc_1 hno]; decide, by rw [doc_1 hno]⟩, (From.rfl_.next E14)⟩
  with_reducible replace Q2 := bn_f Q2
  have hord : DOrd ds := hb14.1 (by simpa using Q2)
  refine cd_skip (nx_then (cd_seq (cd_region ?_)))
  refine mvs rfl ?_
  refine st_call SegMake_k23 (total_rt A c n ds _ (hr.from_ (From.rfl_.next E14)) hn hl) ?_
  rintro v18 w3 ⟨⟨m18, b18, rfl, hb18, hm18⟩, E18⟩
  refine mvt rfl ?_
  refine st_val (ro_extract rfl rfl) ?_
  refine st_val (ro_extract rfl rfl) ?_
  refine asi rfl ?_
  refine asb rfl ?_
  refine st_nil (nx_then (cd_seq (cd_seq (cd_region ?_))))
  refine mvb rfl ?_
  refine st_val (ro_not rfl) ?_
  refine st_nil (nx_then ?_)
  refine cd_cond rfl (fun Q4 => ?_) (fun Q4 => ?_)
  · with_reducible replace Q4 := bn_t Q4
    have hnf : ¬ DFit ds := fun h => by have := hb18.2 h; simp_all
    refine cd_seq (cd_region ?_)
    refine asp rfl ?_
    refine asi rfl ?_
    refine st_nil (nx_then (cd_ret (rt_then ?_)))
    refine res2 (v := .pointer _) (v' := .int _ _) rfl rfl rfl ?_
    exact ⟨.inl ⟨by rw [doc_2 hord hnf]; decide, by rw [doc_2 hord hnf]⟩, ((From.rfl_.next E14).next E18)⟩
  with_reducible replace Q4 := bn_f Q4
  have hfit : DFit ds := hb18.1 (by simpa using Q4)
  obtain rfl := hm18 (hb18.2 hfit)
  have hf1 := hfit.1
  have hf3 := hfit.2.2
  refine cd_skip (nx_then (cd_seq (cd_region ?_)))
  refine mvs rfl ?_
  refine st_val (ro_len SegMake_l32 rfl) ?_
  refine st_make0 (m := n) (base := w.heap.size) SegMake_m60 rfl rfl rfl (by omega) (by omega) (((From.rfl_.next E14).next E18).size) ?_
  intro g25 w5 E25 hb25 ho25
  refine ass rfl ?_
  refine st_nil (nx_then (cd_seq (cd_region ?_)))
  refine mvi rfl ?_
  refine mvs rfl ?_
  refine st_val (ro_len SegMake_l32 rfl) ?_
  refine st_val (ro_addN rfl rfl (by omega)) ?_
  refine st_make0 (m := dsz ds + n) (base := w.heap.size) SegMake_m60 rfl rfl rfl (by omega) (by omega) ((((From.rfl_.next E14).next E18).next E25).size) ?_
  intro g30 w6 E30 hb30 ho30
  have hap0 : Apart (some ⟨g25, 0, none⟩) (some ⟨g30, 0, none⟩) := Apart.fresh ho25 (fun q hq => by cases hq; exact Nat.le_of_eq hb30.symm)
  refine ass rfl ?_
  refine st_nil (nx_then (cd_seq (cd_seq (cd_region ?_))))
  refine mvs rfl ?_
  refine st_val (ro_len SegMake_l32 rfl) ?_
  refine mvi rfl ?_
  refine st_nil (nx_then (cd_block ?_))
  refine cd_loop (G := Nat × (Option Addr × Nat) × Option Addr × Nat) [9, 34, 35, 36, 37, 38, 39, 40, 41, 42, 43, 44, 45, 46, 47, 48, 49, 50] (fun (k, (A6, c6), A7, c7) => [(33, .int .i64 (k : Nat)), (6, .slice A6 k c6), (7, .slice A7 (syms (ds.take k)).length c7)]) (fun (k, (A6, c6), A7, c7) w' => k ≤ n ∧ w'.ownsRow w.heap.size 3 1 (.slice A6 k c6) k ((lens (ds.take k)).map iV) ∧ w'.ownsRow w.heap.size 3 1 (.slice A7 (syms (ds.take k)).length c7) (syms (ds.take k)).length ((cI (syms (ds.take k))).map iV) ∧ Apart A6 A7 ∧ From w w') (fun (k, _, _) => n - k) ((0, (some ⟨g25, 0, none⟩, n), some ⟨g30, 0, none⟩, dsz ds + n)) ⟨rfl, rfl, rfl, trivial⟩ ?_ ?_
  · exact ⟨Nat.zero_le _, ho25.kept_from E30, ho30, hap0, ((((From.rfl_.next E14).next E18).next E25).next E30)⟩
  rintro ⟨k, ⟨A6, c6⟩, A7, c7⟩ ρ7 w7 ⟨hk, ho6, ho7, hap, hB⟩
  refine cd_seq (cd_region ?_)
  refine st_val (ro_lss rfl rfl) ?_
  refine st_nil (nx_then (cd_seq ?_))
  refine cd_cond rfl (fun Q8 => ?_) (fun Q8 => ?_)
  · with_reducible replace Q8 := of_decide_eq_true Q8
    obtain ⟨bd, od, rfl, hcd⟩ := hr (by omega)
    have hil : k < ds.length := by omega
    have hce := hcd k hil
    obtain ⟨d, hd⟩ : ∃ d, ds[k] = d := ⟨_, rfl⟩
    have hdi : ds.getD k dd = d := by rw [getD_get hil, hd]
    rw [hd] at hce
    have hds : d.2.size ≤ 2048 := hfit.2.1 d (by rw [← hd]; exact List.getElem_mem hil)
    have hsy := syms_take hil
    rw [hdi] at hsy
    have hsl : (syms (ds.take (k + 1))).length = (syms (ds.take k)).length + d.2.size + 1 := by rw [hsy, List.length_append, List.length_append, txt_len]; rfl
    have hsb : (syms (ds.take k)).length ≤ 20000 := by rw [syms_len, List.length_take]; have := dsz_le (ds := ds) k; omega
    refine cd_skip (nx_then (cd_seq (cd_block (cd_seq (cd_region ?_)))))
    refine st_val (ro_indexAddrN SegMake_e32 rfl rfl (by omega)) ?_
    refine st_val (ro_loadA (cs := [_, _]) SegMake_g43 SegMake_z43 rfl (by exact rangeF hB hce)) ?_
    refine st_alloc SegMake_o43 ?_
    intro b9 w9 E9 hb9 hk9
    have hg9 : w.heap.size ≤ b9 := by rw [hb9]; exact (hB).size
    refine st_putW (vs := [_, _]) SegMake_z43 rfl rfl (by simp [Value.oneCell']) (hk9) rfl ?_
    intro w10 O10 P10
    replace ho6 := own_only3 (ho6.kept_from E9) O10 (fun q hq => by have := (own_at ho6 q hq).2; omega)
    replace ho7 := own_only3 (ho7.kept_from E9) O10 (fun q hq => by have := (own_at ho7 q hq).2; omega)
    refine st_nil (nx_then (cd_seq (cd_region ?_)))
    refine mvs rfl ?_
    refine st_val (ro_fieldAddr SegMake_f43_1 rfl) ?_
    refine st_val (ro_load SegMake_g9 rfl (by exact (P10.from_ From.rfl_).rd 1 rfl)) ?_
    refine st_val (ro_lenS (by kernel_rfl) rfl) ?_
    refine st_lit1 (v := .int _ _) SegMake_q60 rfl rfl rfl ?_
    intro b41 w11 E41 hb41 hk41
    refine st_appendL SegMake_q60 rfl (by decide) rfl (A := A6) (xs := (lens (ds.take k)).map iV) (news := [iV ((d.2.size : Nat) : Int)]) (ho6.kept_from (From.rfl_.next E41)) ((((hB.next E9).only O10 (hg9)).next E41).size) rfl rfl ⟨b41, 0, rfl, hk41.whole⟩ (by simp [Value.oneCell']) (by omega) (by omega) ?_
    intro A42 c42 w12 ho42 hg42 hL42
    have HF42 := ((((hB.next E9).only O10 (hg9)).next E41)).grew hg42 (fun k hk => (own_at (ho6.kept_from (From.rfl_.next E41)) k hk).1)
    have ho7b := own_aside (ho7.kept_from (From.rfl_.next E41)) hg42 hap
    have hap42 := hap.new (fun q hq => (own_at (ho7.kept_from (From.rfl_.next E41)) q hq).2) hL42
    have P10b := (P10.from_ (From.rfl_.next E41)).grown hg42 (own_off (ho6.kept_from (From.rfl_.next E41)) (P10.from_ (From.rfl_.next E41)) (by decide))
    refine ass rfl ?_
    refine st_nil (nx_then (cd_region ?_))
    refine mvs rfl ?_
    refine st_val (ro_fieldAddr SegMake_f43_1 rfl) ?_
    refine st_val (ro_load SegMake_g9 rfl (by exact P10b.rd 1 rfl)) ?_
    refine st_call SegMake_k24 (symb_rt d.2 _ (by omega)) ?_
    rintro v46 w13 ⟨⟨g46, rfl, hg46, hk46⟩, E46⟩
    refine st_appendL SegMake_q60 rfl (by decide) rfl (A := A7) (xs := (cI (syms (ds.take k))).map iV) (news := (cI (txt d.2)).map iV) (ho7b.kept_from (From.rfl_.next E46)) ((HF42.next E46).size) rfl (by rw [List.length_map, cI, List.length_map, txt_len, Nat.mul_one]) ⟨g46, 0, rfl, rowRange (syT_row hk46)⟩ (by simp [Value.oneCell']) (by omega) (by omega) ?_
    intro A47 c47 w14 ho47 hg47 hL47
    have HF47 := ((HF42.next E46)).grew hg47 (fun k hk => (own_at (ho7b.kept_from (From.rfl_.next E46)) k hk).1)
    have ho42a := own_aside (ho42.kept_from (From.rfl_.next E46)) hg47 hap42.symm
    have hap47 := hap42.symm.new (fun q hq => (own_at (ho42.kept_from (From.rfl_.next E46)) q hq).2) hL47
    refine st_lit1 (v := .int _ _) SegMake_q60 rfl rfl rfl ?_
    intro b48 w15 E48 hb48 hk48
    refine st_appendL SegMake_q60 rfl (by decide) rfl (A := A47) (xs := (cI (syms (ds.take k))).map iV ++ (cI (txt d.2)).map iV) (news := [iV 0]) (ho47.kept_from (From.rfl_.next E48)) ((HF47.next E48).size) rfl rfl ⟨b48, 0, rfl, hk48.whole⟩ (by simp [Value.oneCell']) (by omega) (by omega) ?_
    intro A49 c49 w16 ho49 hg49 hL49
    have HF49 := ((HF47.next E48)).grew hg49 (fun k hk => (own_at (ho47.kept_from (From.rfl_.next E48)) k hk).1)
    have ho42b := own_aside (ho42a.kept_from (From.rfl_.next E48)) hg49 hap47
    have hap49 := hap47.new (fun q hq => (own_at (ho42a.kept_from (From.rfl_.next E48)) q hq).2) hL49
    refine ass rfl ?_
    refine st_nil (nx_block (nx_then (cd_region ?_)))
    refine st_val (ro_addN (b := 1) rfl rfl (by omega)) ?_
    refine mvi rfl ?_
    refine st_nil ?_
    refine nx_cut ((k + 1, (A42, c42), A49, c49)) ⟨rfl, rfl, (by rw [hsl]; rfl), trivial⟩ (by (iterate 42 refine agr_cons rfl ?_); exact agr_rfl) ⟨?_, ?_⟩
    · exact ⟨by omega, by rw [lens_take hil, hdi]; exact ho42b, by rw [hsl, hsy, cI_app, cI_app, List.map_append, List.map_append]; exact ho49, hap49.symm, HF49⟩
    · show n - (k + 1) < n - k; omega
  with_reducible replace Q8 := of_decide_eq_false Q8
  have hkn : ds.take k = ds := List.take_of_length_le (by omega)
  refine cd_exit ?_
  refine ex_then (ex_then (ex_block (nx_then (cd_seq (cd_region ?_)))))
  refine mvs rfl ?_
  have hz53 := (hB).size
  refine st_call SegMake_k25 (bnew_n A6 c6 k (lens (ds.take k)) _ (RowOf.own ho6).2 (by rw [hkn]; exact lens_gd hfit) (by rw [lens_len, List.length_take]; omega)) ?_
  rintro v53 w17 ⟨⟨bd, rfl, hbd⟩, E53⟩
  refine mvt rfl ?_
  refine st_val (ro_extract rfl rfl) ?_
  refine st_val (ro_extract rfl rfl) ?_
  refine asp rfl ?_
  refine asi rfl ?_
  refine st_nil (nx_then (cd_seq (cd_seq (cd_region ?_))))
  refine mvi rfl ?_
  refine st_val (ro_neq rfl rfl) ?_
  refine st_nil (nx_then ?_)
  refine cd_cond rfl (fun Q18 => ?_) (fun Q18 => ?_)
  · with_reducible replace Q18 := bx_t Q18
    exfalso; omega
  with_reducible replace Q18 := bx_f Q18
  refine cd_skip (nx_then (cd_seq (cd_region ?_)))
  refine mvs rfl ?_
  have hz61 := ((hB.next E53)).size
  refine st_call SegMake_k26 (fbuild_n A7 c7 _ (ds.take k) _ ((RowOf.own ho7).2.from_ E53) rfl (by rw [hkn]; exact hfit)) ?_
  rintro v61 w19 ⟨⟨xb, a, Bs, F, rfl, hfm⟩, E61⟩
  refine mvt rfl ?_
  refine st_val (ro_extract rfl rfl) ?_
  refine st_val (ro_extract rfl rfl) ?_
  refine asp rfl ?_
  refine asi rfl ?_
  refine st_nil (nx_then (cd_seq (cd_seq (cd_region ?_))))
  refine mvi rfl ?_
  refine st_val (ro_neq rfl rfl) ?_
  refine st_nil (nx_then ?_)
  refine cd_cond rfl (fun Q20 => ?_) (fun Q20 => ?_)
  · with_reducible replace Q20 := bx_t Q20
    exfalso; omega
  with_reducible replace Q20 := bx_f Q20
  refine cd_skip (nx_then (cd_seq (cd_region ?_)))
  refine mvp rfl ?_
  refine mvs rfl ?_
  have hz69 := (((hB.next E53).next E61)).size
  refine st_call SegMake_k17 (clone_d A c n ds _ (hr.from_ ((hB.next E53).next E61)) hn hn0 hl) ?_
  rintro v69 w21 ⟨⟨A69, c69, rfl, ho69⟩, E69⟩
  refine mvp rfl ?_
  refine mvi rfl ?_
  refine st_val (ro_build (l := [(0, .tmp 67), (1, .tmp 69), (2, .tmp 70), (3, .tmp 71)]) (SegMake_b49_0_1_2_3 _ _ _ _ _ _)) ?_
  have hz73q := ((((hB.next E53).next E61).next E69)).size
  refine st_box (v := .agg _) rfl ?_
  intro b73 w22 E73 hb73 hk73
  have hz73 : w.heap.size ≤ b73 := by rw [hb73]; exact hz73q
  refine asp rfl ?_
  refine asi rfl ?_
  refine st_nil (nx_then (cd_ret ?_))
  refine res2 (v := .pointer _) (v' := .int _ _) rfl rfl rfl ?_
  subst hn
  rw [hkn] at hfm hbd
  exact ⟨.inr ⟨doc_0 hord hfit, b73, rfl, ⟨hz73, xb, bd, a, Bs, F, A69, c69, hk73, (hfm.from_ (E69.next E73)).le hz61, (hbd.from_ (E61.next (E69.next E73))).le hz53, own_le (ho69.kept_from E73) hz69, hord, hfit⟩⟩, ((((hB.next E53).next E61).next E69).next E73)⟩
/-- what is wrong with a pattern -/
def patE (p : ByteArray) : Int := if p.size = 0 then 5 else if 4096 < p.size then 2 else 0
/-- what Search tells -/
def segH (ds : List Dc) (p : ByteArray) : List Ht := if patE p = 0 then hits ds p else []
theorem size_zero {p : ByteArray} (h : p = ⟨#[]⟩) : p.size = 0 := by rw [h]; rfl
theorem size_zero' {p : ByteArray} (h : p.size = 0) : p = ⟨#[]⟩ := by
  obtain ⟨l⟩ := p
  congr 1
  exact Array.eq_empty_of_size_eq_zero h
end Go.Proofs.YtglndihdhaaccaaDoor

namespace Go.Proofs.YtglndihdhaaccaaDoor
open Go.RowKit
open Go.ChangeShapes Go.WideShapes Go.ChangeAt
open Go.Proofs.YtglndihdhaaccaaDoor.SA
theorem SegDoc0_f49_1 : fieldQ Tryd.prog 49 1 = some 1 := by kernel_rfl
theorem SegDoc0_g32 : aggQ Tryd.prog 32 = some false := by kernel_rfl
theorem SegDoc0_k17 : callable Tryd.prog 17 = true := by kernel_rfl
set_option maxHeartbeats 400000 in
theorem docs_rt (base s : Nat) (ds : List Dc) (w : World) (hs : SegAt w base s ds) :
    Rt Tryd.prog 9 [.pointer (some ⟨s, 0, none⟩)] w (fun v w' => (∃ A' c', v = .slice A' ds.length c' ∧ w'.ownsRow w.heap.size 43 2 (.slice A' ds.length c') ds.length (ds.flatMap dV)) ∧ From w w') := by
  obtain ⟨hb0, x, bd, a, B, F, A, c, hI, hf, hb, ho, hO, hD⟩ := hs
  have hDl := hD.1
  have hrD := (RowK.own dV_len (by decide) ho).2
  refine enter (n := 8) Tryd.func9 rfl rfl rfl ?_
  refine cd_seq (cd_region ?_)
  refine ass rfl ?_
  refine st_nil (nx_then (cd_seq (cd_region ?_)))
  refine mvp rfl ?_
  refine st_val (ro_nilCheck rfl) ?_
  refine st_val (ro_fieldAddr SegDoc0_f49_1 rfl) ?_
  refine st_val (ro_load SegDoc0_g32 rfl (by exact (hI.from_ From.rfl_).rd 1 rfl)) ?_
  refine st_call SegDoc0_k17 (clone_d A c ds.length ds _ (hrD.from_ From.rfl_) rfl (fun h => by subst h; exact ⟨own_none0 ho, own_none ho⟩) (by omega)) ?_
  rintro v7 w1 ⟨⟨A7, c7, rfl, ho7⟩, E7⟩
  refine ass rfl ?_
  refine st_nil (nx_then (cd_ret ?_))
  refine res1 (v := .slice _ _ _) rfl rfl ?_
  exact ⟨⟨A7, c7, rfl, ho7⟩, (From.rfl_.next E7)⟩
end Go.Proofs.YtglndihdhaaccaaDoor

namespace Go.Proofs.YtglndihdhaaccaaDoor
open Go.RowKit
open Go.ChangeShapes Go.WideShapes Go.ChangeAt
open Go.Proofs.YtglndihdhaaccaaDoor.SA
theorem ScCode_q39 : litQ Tryd.prog 39 = some (9, 1, 16, (.string ⟨#[]⟩)) := by kernel_rfl
theorem ScCode_q23 : litQ Tryd.prog 23 = some (5, 1, 1, (.int .u8 0)) := by kernel_rfl
theorem ScCode_q32 : litQ Tryd.prog 32 = some (43, 2, 32, (.agg #[.string ⟨#[]⟩, .string ⟨#[]⟩])) := by kernel_rfl
theorem ScCode_e32 : elemQ Tryd.prog 32 = some (43, 2) := by kernel_rfl
theorem ScCode_p25 : Tryd.prog.underlying 25 = some (.pointer (Tryd.prog.pointee 25)) := by kernel_rfl
theorem ScCode_k9 : callable Tryd.prog 9 = true := by kernel_rfl
theorem ScCode_l32 : (elemQ Tryd.prog 32).isSome = true := by kernel_rfl
theorem ScCode_g43 : aggQ Tryd.prog 43 = some true := by kernel_rfl
theorem ScCode_z43 : sizeQ Tryd.prog 43 = some 2 := by kernel_rfl
theorem ScCode_o43 : zeroQ Tryd.prog 43 = some (.agg #[.string ⟨#[]⟩, .string ⟨#[]⟩]) := by kernel_rfl
theorem ScCode_f43_0 : fieldQ Tryd.prog 43 0 = some 0 := by kernel_rfl
theorem ScCode_g9 : aggQ Tryd.prog 9 = some false := by kernel_rfl
theorem ScCode_f43_1 : fieldQ Tryd.prog 43 1 = some 1 := by kernel_rfl
theorem ScCode_k18 : callable Tryd.prog 18 = true := by kernel_rfl
theorem ScCode_k13 : callable Tryd.prog 13 = true := by kernel_rfl
theorem ScCode_k12 : callable Tryd.prog 12 = true := by kernel_rfl
theorem ScCode_e23 : elemQ Tryd.prog 23 = some (5, 1) := by kernel_rfl
theorem ScCode_l23 : (elemQ Tryd.prog 23).isSome = true := by kernel_rfl
theorem ScCode_k14 : callable Tryd.prog 14 = true := by kernel_rfl
theorem ScCode_l39 : (elemQ Tryd.prog 39).isSome = true := by kernel_rfl
theorem ScCode_e39 : elemQ Tryd.prog 39 = some (9, 1) := by kernel_rfl
theorem ScCode_b43_0_1 : ∀ (a0 : ByteArray) (a1 : ByteArray), Tryd.prog.built 43 [(0, .string a0), (1, .string a1)] = some #[.string a0, .string a1] := by intros; kernel_rfl
theorem ScCode_k15 : callable Tryd.prog 15 = true := by kernel_rfl
theorem encL_mem : ∀ {ts : List ByteArray} {s : ByteArray}, s ∈ ts → s.size ≤ (encL ts).length
  | x :: r, s, h => by
    rw [encL, List.length_append, encS_length]
    rcases List.mem_cons.1 h with rfl | h
    · omega
    · have := encL_mem h; omega
theorem putB_mem {ts : List ByteArray} {s : ByteArray} (h : s ∈ ts) : s.size ≤ (putB ts).length := by
  rw [putB, List.length_append]
  have := encL_mem h
  omega
theorem encL_byte : ∀ {ts : List ByteArray}, (∀ s ∈ ts, s.size ≤ 9223372036854775807) → ∀ b ∈ encL ts, b < 256
  | [], _, b, h => by simp [encL] at h
  | x :: r, hs, b, h => by
    rw [encL, encS] at h
    rcases List.mem_append.1 h with h | h
    · rcases List.mem_append.1 h with h | h
      · exact nums_byte9 (hs x (.head _)) b h
      · exact strB_lt x b h
    · exact encL_byte (fun s h => hs s (.tail _ h)) b h
theorem putB_byte {ts : List ByteArray} (hl : ts.length ≤ 9223372036854775807) (hs : ∀ s ∈ ts, s.size ≤ 9223372036854775807) : ∀ b ∈ putB ts, b < 256 := by
  intro b hb
  rw [putB] at hb
  rcases List.mem_append.1 hb with h | h
  · exact nums_byte9 hl b h
  · exact encL_byte hs b h
theorem rowC_drop {w : World} {b o n c : Nat} {vs : List Value} (h : RowC w (.slice (some ⟨b, o, none⟩) n c) vs) {m : Nat} (hm : m ≤ vs.length) : RowC w (.slice (some ⟨b, if c = m then o else o + m, none⟩) (n - m) (c - m)) (vs.drop m) := by
  have := h.rest hm
  have e : restA (some ⟨b, o, none⟩) c m = some ⟨b, if c = m then o else o + m, none⟩ := by
    unfold restA
    split
    · rfl
    · simp [Addr.add_lit]
  rw [e] at this
  exact this
theorem bytesV_take (l : List Nat) (m : Nat) : bytesV (l.take m) = (bytesV l).take m := by unfold bytesV; rw [List.map_take]
theorem bytesV_drop (l : List Nat) (m : Nat) : bytesV (l.drop m) = (bytesV l).drop m := by unfold bytesV; rw [List.map_drop]
theorem getB_sizes {l : List Nat} {ss : List ByteArray} (hb : ∀ b ∈ l, b < 256) (h : getB l = some ss) : (∀ s ∈ ss, s.size ≤ 1048576) ∧ ss.length ≤ 1048576 := by
  obtain ⟨h1, h2⟩ := getB_back hb h
  refine ⟨fun s hs => ?_, ?_⟩
  · have := putB_mem hs
    rw [h1] at this
    omega
  · have := encL_count ss
    have h3 : (putB ss).length = l.length := by rw [h1]
    rw [putB, List.length_append] at h3
    omega
/-- documents as strings, and back -/
def fS : List Dc → List ByteArray
  | [] => []
  | d :: ds => d.1 :: d.2 :: fS ds
def uS : List ByteArray → List Dc
  | x :: y :: r => (x, y) :: uS r
  | _ => []
theorem uS_fS : ∀ ds : List Dc, uS (fS ds) = ds
  | [] => rfl
  | d :: ds => by rw [fS, uS, uS_fS ds]
theorem fS_uS : ∀ ss : List ByteArray, ss.length % 2 = 0 → fS (uS ss) = ss
  | [], _ => rfl
  | [x], h => by simp at h
  | x :: y :: r, h => by rw [uS, fS, fS_uS r (by simp only [List.length_cons] at h; omega)]
theorem fS_len : ∀ ds : List Dc, (fS ds).length = 2 * ds.length
  | [] => rfl
  | d :: ds => by rw [fS, List.length_cons, List.length_cons, fS_len ds, List.length_cons]; omega
theorem fS_app : ∀ (a b : List Dc), fS (a ++ b) = fS a ++ fS b
  | [], b => rfl
  | d :: a, b => by rw [List.cons_append, fS, fS, fS_app a b]; rfl
theorem uS_len : ∀ ss : List ByteArray, ss.length % 2 = 0 → 2 * (uS ss).length = ss.length
  | [], _ => rfl
  | [x], h => by simp at h
  | x :: y :: r, h => by
    have := uS_len r (by simp only [List.length_cons] at h; omega)
    rw [uS, List.length_cons, List.length_cons, List.length_cons]; omega
theorem uS_take : ∀ (ss : List ByteArray) (k : Nat), 2 * k + 1 < ss.length → (uS (ss.take (2 * k + 2))) = uS (ss.take (2 * k)) ++ [(ss.getD (2 * k) ⟨#[]⟩, ss.getD (2 * k + 1) ⟨#[]⟩)]
  | [], k, h => by simp at h
  | [x], k, h => by simp at h
  | x :: y :: r, 0, h => by simp [uS]
  | x :: y :: r, k + 1, h => by
    have := uS_take r k (by simp only [List.length_cons] at h; omega)
    rw [show 2 * (k + 1) + 2 = (2 * k + 2) + 1 + 1 by omega, show 2 * (k + 1) + 1 = (2 * k + 1) + 1 + 1 by omega, show 2 * (k + 1) = 2 * k + 1 + 1 by omega]
    simp only [List.take_succ_cons, uS, List.getD_cons_succ, this, List.cons_append]
theorem fS_take {ds : List Dc} {i : Nat} (h : i < ds.length) : fS (ds.take (i + 1)) = fS (ds.take i) ++ [ds[i].1, ds[i].2] := by
  rw [List.take_succ_eq_append_getElem h, fS_app]; rfl
theorem encL_fS : ∀ ds : List Dc, (∀ d ∈ ds, d.1.size ≤ 64 ∧ d.2.size ≤ 2048) → (encL (fS ds)).length ≤ ds.length * 82 + dsz ds ∧ ∀ s ∈ fS ds, s.size ≤ 2048
  | [], _ => ⟨Nat.zero_le _, fun s h => by cases h⟩
  | d :: ds, h => by
    obtain ⟨h1, h2⟩ := encL_fS ds fun e he => h e (List.mem_cons_of_mem _ he)
    obtain ⟨k1, k2⟩ := h d (List.mem_cons_self ..)
    have n1 := nums_len9 (show d.1.size ≤ 9223372036854775807 by omega)
    have n2 := nums_len9 (show d.2.size ≤ 9223372036854775807 by omega)
    refine ⟨?_, fun s hs => ?_⟩
    · rw [fS, encL, encL, List.length_append, List.length_append, encS_length, encS_length, List.length_cons, dsz]
      omega
    · rw [fS] at hs
      rcases List.mem_cons.1 hs with e | hs
      · rw [e]; omega
      · rcases List.mem_cons.1 hs with e | hs
        · rw [e]; exact k2
        · exact h2 s hs
theorem ok_fS {ds : List Dc} (h : DOrd ds) (k : DFit ds) : (putB (fS ds)).length ≤ 100000 ∧ (∀ s ∈ fS ds, s.size ≤ 2048) ∧ (fS ds).length ≤ 128 := by
  have hd : ∀ d ∈ ds, d.1.size ≤ 64 ∧ d.2.size ≤ 2048 := fun d hd => by
    obtain ⟨i, hi, rfl⟩ := List.getElem_of_mem hd
    have h1 := (h i hi).2.1
    rw [getD_get hi] at h1
    exact ⟨h1, k.2.1 _ hd⟩
  obtain ⟨h1, h2⟩ := encL_fS ds hd
  have hl := fS_len ds
  have k1 := k.1
  have k3 := k.2.2
  have n1 := nums_len9 (show (fS ds).length ≤ 9223372036854775807 by omega)
  refine ⟨?_, h2, by omega⟩
  rw [putB, List.length_append]
  omega
/-- the bytes of documents -/
def encD (ds : List Dc) : List Nat := putB (fS ds) ++ ck (putB (fS ds))
theorem encD_len (ds : List Dc) : (encD ds).length = (putB (fS ds)).length + 4 := by rw [encD, List.length_append, ck_len]
theorem encD_cut {ds : List Dc} {l : List Nat} (h : l = encD ds) : 4 ≤ l.length ∧ l.take (l.length - 4) = putB (fS ds) ∧ l.drop (l.length - 4) = ck (putB (fS ds)) := by
  have e := encD_len ds
  rw [h, e]
  have : (putB (fS ds)).length + 4 - 4 = (putB (fS ds)).length := by omega
  refine ⟨by omega, ?_, ?_⟩
  · rw [this, encD, List.take_left' rfl]
  · rw [this, encD, List.drop_left' rfl]
/-- documents that these bytes are -/
def IsD (l : List Nat) (ds : List Dc) : Prop := docE ds = 0 ∧ l = encD ds
theorem isD_get {l : List Nat} {ds : List Dc} (h : IsD l ds) : getB (l.take (l.length - 4)) = some (fS ds) := by
  obtain ⟨h1, h2⟩ := h
  obtain ⟨hO, hF⟩ := doc_zero h1
  obtain ⟨k1, k2, _⟩ := ok_fS hO hF
  rw [(encD_cut h2).2.1]
  exact getB_putB (fun s hs => by have := k2 s hs; omega) (by omega)
theorem isD_of {l : List Nat} {ss : List ByteArray} (hl : ∀ b ∈ l, b < 256) (h4 : 4 ≤ l.length) (hc : l.drop (l.length - 4) = ck (l.take (l.length - 4))) (hg : getB (l.take (l.length - 4)) = some ss) (he : ss.length % 2 = 0) (hd : docE (uS ss) = 0) : IsD l (uS ss) := by
  refine ⟨hd, ?_⟩
  have h1 := (getB_back (fun b hb => hl b (List.mem_of_mem_take hb)) hg).1
  unfold encD
  rw [fS_uS ss he, h1, ← hc, List.take_append_drop]
set_option maxHeartbeats 3000000 in
theorem encode_rt (base s : Nat) (ds : List Dc) (w : World) (hs : SegAt w base s ds) (hT : Table w) :
    Rt Tryd.prog 10 [.pointer (some ⟨s, 0, none⟩)] w (fun v w' => (∃ A' c', v = .tuple #[.slice A' (encD ds).length c', .int .i64 0] ∧ w'.ownsRow w.heap.size 5 1 (.slice A' (encD ds).length c') (encD ds).length (bytesV (encD ds))) ∧ From w w') := by
  obtain ⟨hO, hD⟩ := hs.docs
  obtain ⟨hf1, hf2, hf3⟩ := ok_fS hO hD
  have hDl := hD.1
  have hfl := fS_len ds
  have hbb : ∀ b ∈ putB (fS ds), b < 256 := putB_byte (by omega) (fun s hs => by have := hf2 s hs; omega)
  refine enter (n := 37) Tryd.func10 rfl rfl rfl ?_
  refine cd_seq (cd_region ?_)
  refine ass rfl ?_
  refine asi rfl ?_
  refine st_nil (nx_then (cd_seq (cd_seq (cd_region ?_))))
  refine mvp rfl ?_
  refine st_val (ro_eqlNil ScCode_p25 rfl rfl) ?_
  refine st_nil (nx_then ?_)
  refine cd_cond rfl (fun Q1 => ?_) (fun Q1 => ?_)
  · exfalso; contradiction
  refine cd_skip (nx_then (cd_seq (cd_region ?_)))
  refine ass rfl ?_
  refine st_nil (nx_then (cd_seq (cd_seq (cd_region ?_))))
  refine mvp rfl ?_
  have hz12 : w.heap.size ≤ (w).heap.size := (From.rfl_).size
  refine st_call ScCode_k9 (docs_rt base s ds _ (hs.from_ From.rfl_)) ?_
  rintro v12 w2 ⟨⟨A12, c12, rfl, ho12⟩, E12⟩
  refine st_val (ro_len ScCode_l32 rfl) ?_
  refine mvi rfl ?_
  refine st_nil (nx_then (cd_block ?_))
  refine cd_loop (G := Nat × Option Addr × Nat) [6, 15, 16, 17, 18, 19, 20, 21, 22, 23, 24, 25] (fun (i, A4, c4) => [(14, .int .i64 (i : Nat)), (4, .slice A4 (2 * i) c4)]) (fun (i, A4, c4) w' => i ≤ ds.length ∧ w'.ownsRow w.heap.size 9 1 (.slice A4 (2 * i) c4) (2 * i) ((fS (ds.take i)).map Value.string) ∧ w'.ownsRow w.heap.size 43 2 (.slice A12 ds.length c12) ds.length (List.flatMap dV ds) ∧ From w w') (fun (i, _, _) => ds.length - i) ((0, none, 0)) ⟨rfl, rfl, trivial⟩ ?_ ?_
  · exact ⟨Nat.zero_le _, World.ownsRow_nil _ _ _ _, own_le (ho12.kept_from From.rfl_) hz12, (From.rfl_.next E12)⟩
  rintro ⟨i, A4, c4⟩ ρ3 w3 ⟨hi, ho4, ho12, hB⟩
  refine cd_seq (cd_region ?_)
  refine st_val (ro_lss rfl rfl) ?_
  refine st_nil (nx_then (cd_seq ?_))
  refine cd_cond rfl (fun Q4 => ?_) (fun Q4 => ?_)
  · with_reducible replace Q4 := of_decide_eq_true Q4
    have hil : i < ds.length := by omega
    obtain ⟨d, hd⟩ : ∃ d, ds[i] = d := ⟨_, rfl⟩
    obtain ⟨bD, hA12⟩ := own_some ho12 (by omega)
    subst hA12
    obtain ⟨b9, o9, e9, hcd⟩ := (RowK.own dV_len (by decide) ho12).2 (by omega)
    cases e9
    have hce := hcd i hil
    rw [hd] at hce
    refine cd_skip (nx_then (cd_seq (cd_block (cd_seq (cd_region ?_)))))
    refine st_val (ro_indexAddrN ScCode_e32 rfl rfl (by omega)) ?_
    refine st_val (ro_loadA (cs := [_, _]) ScCode_g43 ScCode_z43 rfl (by exact hce)) ?_
    refine st_alloc ScCode_o43 ?_
    intro b6 w5 E6 hb6 hk6
    have hg6 : w.heap.size ≤ b6 := by rw [hb6]; exact (hB).size
    refine st_putW (vs := [_, _]) ScCode_z43 rfl rfl (by simp [Value.oneCell']) (hk6) rfl ?_
    intro w6 O6 P6
    replace ho4 := own_only3 (ho4.kept_from E6) O6 (fun q hq => by have := (own_at ho4 q hq).2; omega)
    replace ho12 := own_only3 (ho12.kept_from E6) O6 (fun q hq => by have := (own_at ho12 q hq).2; omega)
    refine st_nil (nx_then (cd_region ?_))
    refine mvs rfl ?_
    refine st_val (ro_fieldAddr ScCode_f43_0 rfl) ?_
    refine st_val (ro_load ScCode_g9 rfl (by exact (P6.from_ From.rfl_).rd 0 rfl)) ?_
    refine st_val (ro_fieldAddr ScCode_f43_1 rfl) ?_
    refine st_val (ro_load ScCode_g9 rfl (by exact (P6.from_ From.rfl_).rd 1 rfl)) ?_
    refine st_lits [.tmp 20, .tmp 22] [.string _, .string _] ScCode_q39 rfl rfl rfl rfl (by simp [Value.cells]) ?_
    intro b23 w7 E23 hb23 hk23
    refine st_appendB ScCode_q39 rfl (by decide) rfl (A := A4) (xs := ((fS (ds.take i)).map Value.string)) (news := [.string d.1, .string d.2]) (ho4.kept_from (From.rfl_.next E23)) ((((hB.next E6).only O6 (hg6)).next E23).size) rfl rfl (fun _ => ⟨b23, 0, rfl, hk23.whole⟩) (fun h => by cases h) (by simp [Value.oneCell']) (by omega) (by omega) ?_
    intro A24 c24 w8 ho24 hg24
    have HF24 := ((((hB.next E6).only O6 (hg6)).next E23)).grew hg24 (fun k hk => (own_at (ho4.kept_from (From.rfl_.next E23)) k hk).1)
    have ho12b := own_aside (ho12.kept_from (From.rfl_.next E23)) hg24 (own_apart (ho4.kept_from (From.rfl_.next E23)) (ho12.kept_from (From.rfl_.next E23)) (by decide))
    refine ass rfl ?_
    refine st_nil (nx_block (nx_then (cd_region ?_)))
    refine st_val (ro_addN (b := 1) rfl rfl (by omega)) ?_
    refine mvi rfl ?_
    refine st_nil ?_
    refine nx_cut ((i + 1, A24, c24)) ⟨rfl, rfl, trivial⟩ (by (iterate 28 refine agr_cons rfl ?_); exact agr_rfl) ⟨?_, ?_⟩
    · exact ⟨by omega, by rw [fS_take hil, hd, List.map_append]; exact ho24, ho12b, HF24⟩
    · show ds.length - (i + 1) < ds.length - i; omega
  with_reducible replace Q4 := of_decide_eq_false Q4
  have hie : i = ds.length := by omega
  rw [hie, List.take_length] at ho4
  rw [hie]
  refine cd_exit ?_
  refine ex_then (ex_then (ex_block (nx_then (cd_seq (cd_region ?_)))))
  refine mvs rfl ?_
  have hz28 : w.heap.size ≤ (w3).heap.size := (hB).size
  refine st_call ScCode_k18 (put_w A4 c4 (2 * ds.length) (fS ds) _ hfl.symm (RowC.of_own ho4) (fun s hs => by have := hf2 s hs; omega) (by omega)) ?_
  rintro v28 w9 ⟨A28, c28, rfl, ho28, E28⟩
  refine mvt rfl ?_
  refine st_val (ro_extract rfl rfl) ?_
  refine st_val (ro_extract rfl rfl) ?_
  refine ass rfl ?_
  refine asi rfl ?_
  refine st_nil (nx_then (cd_seq (cd_seq (cd_region ?_))))
  refine mvi rfl ?_
  refine st_val (ro_bf (ro_neq rfl rfl) rfl) ?_
  refine st_nil (nx_then ?_)
  refine cd_condF rfl ?_
  refine cd_skip (nx_then (cd_seq (cd_region ?_)))
  refine mvs rfl ?_
  refine mvs rfl ?_
  refine st_call ScCode_k13 (ck_r A28 c28 _ (putB (fS ds)) _ ((RowC.of_own ho28).from_ From.rfl_) hbb (by omega) (hT.from_ (hB.next E28))) ?_
  rintro v35 w10 ⟨⟨g35, rfl, hg35, hk35⟩, E35⟩
  refine st_appendB ScCode_q23 rfl (by decide) rfl (A := A28) (xs := bytesV (putB (fS ds))) (news := bytesV (ck (putB (fS ds)))) (ho28.kept_from (From.rfl_.next E35)) (Nat.le_trans E28.size E35.size) rfl (by rw [bytesV_length, ck_len]) (fun _ => ⟨g35, 0, rfl, hk35.whole⟩) (fun h => by cases h) (bytesV_one _) (by omega) (by omega) ?_
  intro A36 c36 w11 ho36 hg36
  have HF36 := (((hB.next E28).next E35)).grew hg36 (fun k hk => Nat.le_trans hz28 (own_at (ho28.kept_from (From.rfl_.next E35)) k hk).1)
  refine ass rfl ?_
  refine asi rfl ?_
  refine st_nil (nx_then (cd_ret ?_))
  refine res2 (v := .slice _ _ _) (v' := .int _ _) rfl rfl rfl ?_
  refine ⟨⟨A36, c36, by rw [encD_len], ?_⟩, HF36⟩
  rw [encD_len]
  rw [← bytesV_append] at ho36
  exact own_le ho36 hz28
theorem ro_litK2s {P : Program} {ρ : Operand → Value} {w : World} {t : TypeId} {x : Operand} {e by_ : Nat} {z v z0 z1 u0 u1 : Value} (hq : litQ P t = some (e, 2, by_, z)) (hz : z.cells = #[z0, z1]) (hx : ρ x = v) (hv : v.cells = #[u0, u1]) : RO P ρ (.buildSlice t 1 #[(0, x)]) w (.slice (some ⟨w.heap.size, 0, none⟩) 1 1) (w.alloc (.cells #[u0, u1] e)) := by
  refine ro_lit (l := [(0, x)]) (cells := #[u0, u1]) hq rfl rfl ?_
  have e1 : (Array.range (1 * 2)).map (z.cells[· % z.cells.size]!) = #[z0, z1] := by
    rw [hz, show Array.range (1 * 2) = #[0, 1] from rfl]
    simp
  rw [e1]
  simp [Instr.fill, hx, hv]
theorem own_str {w : World} {base e n c g i : Nat} {ss : List ByteArray} (h : w.ownsRow base e 1 (.slice (some ⟨g, 0, none⟩) n c) n (ss.map Value.string)) (hi : i < n) : w.cell? ⟨g, 0 + i, none⟩ = some (.string (ss.getD i ⟨#[]⟩)) := by
  have hl : ss.length = n := by have := h.1; rw [List.length_map] at this; omega
  rw [Nat.zero_add, h.cellAt i (by omega), List.getElem?_map, List.getElem?_eq_getElem (by omega), List.getD_eq_getElem?_getD, List.getElem?_eq_getElem (by omega)]
  rfl
set_option maxHeartbeats 4000000 in
theorem decode_rt (A : Option Addr) (c n : Nat) (l : List Nat) (w : World) (hn : n = l.length) (hr : RowC w (.slice A n c) (bytesV l)) (hl : ∀ b ∈ l, b < 256) (hlen : l.length ≤ 1000000) (hT : Table w) :
    Rt Tryd.prog 5 [.slice A n c] w (fun v w' => ((∃ ds s, IsD l ds ∧ v = .tuple #[.pointer (some ⟨s, 0, none⟩), .int .i64 0] ∧ SegAt w' w.heap.size s ds) ∨ ((∀ ds, ¬ IsD l ds) ∧ v = .tuple #[.pointer none, .int .i64 1])) ∧ From w w') := by
  subst hn
  refine enter (n := 68) Tryd.func5 rfl rfl rfl ?_
  refine cd_seq (cd_region ?_)
  refine asp rfl ?_
  refine asi rfl ?_
  refine st_nil (nx_then (cd_seq (cd_region ?_)))
  refine mvs rfl ?_
  refine st_val (ro_len ScCode_l23 rfl) ?_
  obtain ⟨q, hq⟩ : ∃ q : Int, ((l.length : Nat) : Int) - 4 = q := ⟨_, rfl⟩
  refine st_val (ro_sub64' (r := q) rfl rfl hq (by omega)) ?_
  refine asi rfl ?_
  refine st_nil (nx_then (cd_seq (cd_seq ?_)))
  rcases Int.lt_or_le q 0 with hq0 | hq0
  · apply cd_drawn 13 [(13, eqp _), (14, eqp _), (15, eqp _), (16, eqp _), (17, eqp _), (18, eqp _), (19, eqp _), (20, eqp _), (21, eqp _), (22, eqp _), (23, eqp _), (24, eqp _), (25, eqp _)] (by kernel_rfl) (by kernel_rfl) ⟨eqp_mono _, eqp_mono _, eqp_mono _, eqp_mono _, eqp_mono _, eqp_mono _, eqp_mono _, eqp_mono _, eqp_mono _, eqp_mono _, eqp_mono _, eqp_mono _, eqp_mono _, trivial⟩
    case hop =>
     refine ⟨?_, ?_⟩
     · intro w2 D2
       show OpOK _ _ _ _ _ _ _
       exact ok_pure (ro_move (v := .int _ _) rfl) rfl
     refine ⟨?_, ?_⟩
     · intro w3 D3
       rintro _ rfl
       show OpOK _ _ _ _ _ _ _
       exact ok_pure (ro_bt (ro_lss rfl rfl) (decide_eq_true (by omega))) rfl
     refine ⟨?_, ?_⟩
     · intro w4 D4
       rintro _ rfl
       show OpOK _ _ _ _ _ _ _
       exact ok_pure (ro_move rfl) rfl
     refine ⟨?_, ?_⟩
     · intro w5 D5
       rintro _ rfl
       show OpOK _ _ _ _ _ _ _
       exact ok_gno rfl rfl rfl
     refine ⟨?_, ?_⟩
     · intro w6 D6
       rintro _ rfl
       show OpOK _ _ _ _ _ _ _
       exact ok_gno rfl rfl rfl
     refine ⟨?_, ?_⟩
     · intro w7 D7
       rintro _ rfl _ rfl _ rfl
       show OpOK _ _ _ _ _ _ _
       exact ok_gno rfl rfl rfl
     refine ⟨?_, ?_⟩
     · intro w8 D8
       rintro _ rfl
       show OpOK _ _ _ _ _ _ _
       exact ok_gno rfl rfl rfl
     refine ⟨?_, ?_⟩
     · intro w9 D9
       rintro _ rfl
       show OpOK _ _ _ _ _ _ _
       exact ok_gno rfl rfl rfl
     refine ⟨?_, ?_⟩
     · intro w10 D10
       rintro _ rfl _ rfl _ rfl
       show OpOK _ _ _ _ _ _ _
       exact ok_gno rfl rfl rfl
     refine ⟨?_, ?_⟩
     · intro w11 D11
       rintro _ rfl _ rfl
       show OpOK _ _ _ _ _ _ _
       exact ok_gno rfl rfl rfl
     refine ⟨?_, ?_⟩
     · intro w12 D12
       rintro _ rfl _ rfl _ rfl
       show OpOK _ _ _ _ _ _ _
       exact ok_gno rfl rfl rfl
     refine ⟨?_, ?_⟩
     · intro w13 D13
       rintro _ rfl _ rfl
       show OpOK _ _ _ _ _ _ _
       exact ok_gno rfl rfl rfl
     refine ⟨?_, ?_⟩
     · intro w14 D14
       rintro _ rfl _ rfl
       show OpOK _ _ _ _ _ _ _
       exact ok_pure (ro_pickT (v := .bool _) rfl rfl) rfl
     exact trivial
    case hend =>
     intro w15 D15
     rintro _ rfl _ rfl _ rfl _ rfl _ rfl _ rfl _ rfl _ rfl _ rfl _ rfl _ rfl _ rfl _ rfl
     show St _ _ _ _ _ _ _
     refine st_nil (nx_then ?_)
     refine cd_condT rfl ?_
     refine cd_seq (cd_region ?_)
     refine asp rfl ?_
     refine asi rfl ?_
     refine st_nil (nx_then (cd_ret (rt_then ?_)))
     refine res2 (v := .pointer _) (v' := .int _ _) rfl rfl rfl ?_
     first
       | exact ⟨.inr ⟨fun ds2 hg => (by have := (encD_cut hg.2).1; omega), rfl⟩, (From.rfl_.next D15)⟩
       | exact ⟨.inr ⟨fun ds2 hg => (hnck (by
         obtain ⟨h1, h2, h3⟩ := encD_cut hg.2
         rw [hm, h3, h2])), rfl⟩, (From.rfl_.next D15)⟩
  obtain ⟨m, rfl⟩ : ∃ m : Nat, q = (m : Nat) := ⟨l.length - 4, by omega⟩
  have hm : m = l.length - 4 := by omega
  obtain ⟨b0, o0, rfl⟩ : ∃ b o, A = some ⟨b, o, none⟩ := by
    obtain ⟨A2, c2, hv, _, _, hp⟩ := hr.parts
    simp only [Value.slice.injEq] at hv
    obtain ⟨rfl, _, _⟩ := hv
    obtain ⟨b, o, hA, _⟩ := hp (by rw [bytesV_length]; omega)
    exact ⟨b, o, hA⟩
  have hnc : l.length ≤ c := by
    obtain ⟨A2, c2, hv, hc2, _, _⟩ := hr.parts
    simp only [Value.slice.injEq] at hv
    rw [bytesV_length] at hc2
    omega
  have hrT : RowC w (.slice (some ⟨b0, o0, none⟩) m c) (bytesV (l.take m)) := by rw [bytesV_take]; exact hr.cut (by rw [bytesV_length]; omega)
  have hrD : RowC w (.slice (some ⟨b0, if c = m then o0 else o0 + m, none⟩) (l.length - m) (c - m)) (bytesV (l.drop m)) := by rw [bytesV_drop]; exact rowC_drop hr (by rw [bytesV_length]; omega)
  have hbT : ∀ b ∈ l.take m, b < 256 := fun b hb => hl b (List.mem_of_mem_take hb)
  have hbD : ∀ b ∈ l.drop m, b < 256 := fun b hb => hl b (List.mem_of_mem_drop hb)
  apply cd_drawn 13 [(13, eqp _), (14, eqp _), (15, eqp _), (16, eqp _), (17, eqp _), (18, eqp _), (19, eqp _), (20, eqp _), (21, eqp _), (22, fun v w' => ∃ g, v = .slice (some ⟨g, 0, none⟩) 4 4 ∧ Blk w' g 5 ((ck (l.take m)).map bV).toArray), (23, eqp _), (24, eqp _), (25, eqp _)] (by kernel_rfl) (by kernel_rfl) ⟨eqp_mono _, eqp_mono _, eqp_mono _, eqp_mono _, eqp_mono _, eqp_mono _, eqp_mono _, eqp_mono _, eqp_mono _, (fun _ _ _ hF ⟨g, h1, h2⟩ => ⟨g, h1, h2.from_ hF⟩), eqp_mono _, eqp_mono _, eqp_mono _, trivial⟩
  case hop =>
   refine ⟨?_, ?_⟩
   · intro w17 D17
     show OpOK _ _ _ _ _ _ _
     exact ok_pure (ro_move (v := .int _ _) rfl) rfl
   refine ⟨?_, ?_⟩
   · intro w18 D18
     rintro _ rfl
     show OpOK _ _ _ _ _ _ _
     exact ok_pure (ro_bf (ro_lss rfl rfl) (decide_eq_false (by omega))) rfl
   refine ⟨?_, ?_⟩
   · intro w19 D19
     rintro _ rfl
     show OpOK _ _ _ _ _ _ _
     exact ok_pure (ro_move rfl) rfl
   refine ⟨?_, ?_⟩
   · intro w20 D20
     rintro _ rfl
     show OpOK _ _ _ _ _ _ _
     exact ok_gpure rfl (ro_move (v := .slice _ _ _) rfl) rfl
   refine ⟨?_, ?_⟩
   · intro w21 D21
     rintro _ rfl
     show OpOK _ _ _ _ _ _ _
     exact ok_gpure rfl (ro_move (v := .int _ _) rfl) rfl
   refine ⟨?_, ?_⟩
   · intro w22 D22
     rintro _ rfl _ rfl _ rfl
     show OpOK _ _ _ _ _ _ _
     exact ok_gpure rfl (ro_dropN (m := m) ScCode_e23 rfl rfl (by omega) hnc) rfl
   refine ⟨?_, ?_⟩
   · intro w23 D23
     rintro _ rfl
     show OpOK _ _ _ _ _ _ _
     exact ok_gpure rfl (ro_move (v := .slice _ _ _) rfl) rfl
   refine ⟨?_, ?_⟩
   · intro w24 D24
     rintro _ rfl
     show OpOK _ _ _ _ _ _ _
     exact ok_gpure rfl (ro_move (v := .int _ _) rfl) rfl
   refine ⟨?_, ?_⟩
   · intro w25 D25
     rintro _ rfl _ rfl _ rfl
     show OpOK _ _ _ _ _ _ _
     exact ok_gpure rfl (ro_takeN (m := m) ScCode_e23 rfl rfl (by omega)) rfl
   refine ⟨?_, ?_⟩
   · intro w26 D26
     rintro _ rfl _ rfl
     show OpOK _ _ _ _ _ _ _
     refine ok_gcall rfl ScCode_k13 ((ck_r (some ⟨b0, o0, none⟩) c m (l.take m) _ (hrT.from_ (From.rfl_.next D26)) hbT (by rw [List.length_take]; omega) (hT.from_ (From.rfl_.next D26))).mono ?_)
     rintro v _ ⟨⟨g, rfl, _, hg⟩, F7⟩
     exact ⟨F7, g, rfl, hg⟩
   refine ⟨?_, ?_⟩
   · intro w27 D27
     rintro _ rfl _ rfl v27_22 ⟨g27, rfl, hg27⟩
     show OpOK _ _ _ _ _ _ _
     refine ok_gcall rfl ScCode_k12 ((equal_r _ _ (c - m) 4 (l.length - m) 4 (l.drop m) (ck (l.take m)) _ (hrD.from_ (From.rfl_.next D27)) (RowC.blk (cs := ((ck (l.take m)).map bV).toArray) hg27 4 (by simp [ck]) (by omega)) hbD (ck_byte _)).mono ?_)
     rintro v _ ⟨rfl, rfl⟩
     exact ⟨From.rfl_, rfl⟩
   refine ⟨?_, ?_⟩
   · intro w28 D28
     rintro _ rfl _ rfl
     show OpOK _ _ _ _ _ _ _
     exact ok_gpure rfl (ro_not rfl) rfl
   refine ⟨?_, ?_⟩
   · intro w29 D29
     rintro _ rfl _ rfl
     show OpOK _ _ _ _ _ _ _
     exact ok_pure (ro_pickF (v := .bool _) rfl rfl) rfl
   exact trivial
  case hend =>
   intro w30 D30
   rintro _ rfl _ rfl _ rfl _ rfl _ rfl _ rfl _ rfl _ rfl _ rfl v22 ⟨g30, rfl, hg30⟩ _ rfl _ rfl _ rfl
   show St _ _ _ _ _ _ _
   refine st_nil (nx_then ?_)
   refine cd_cond rfl (fun Q31 => ?_) (fun Q31 => ?_)
   · with_reducible (replace Q31 := bn_t Q31; replace Q31 := of_decide_eq_false Q31)
     have hnck : ¬ l.drop m = ck (l.take m) := by first | exact Q31 | simpa using Q31
     refine cd_seq (cd_region ?_)
     refine asp rfl ?_
     refine asi rfl ?_
     refine st_nil (nx_then (cd_ret (rt_then ?_)))
     refine res2 (v := .pointer _) (v' := .int _ _) rfl rfl rfl ?_
     first
       | exact ⟨.inr ⟨fun ds2 hg => (by have := (encD_cut hg.2).1; omega), rfl⟩, (From.rfl_.next D30)⟩
       | exact ⟨.inr ⟨fun ds2 hg => (hnck (by
         obtain ⟨h1, h2, h3⟩ := encD_cut hg.2
         rw [hm, h3, h2])), rfl⟩, (From.rfl_.next D30)⟩
   with_reducible (replace Q31 := bn_f Q31; replace Q31 := of_decide_eq_true Q31)
   have hyck : l.drop m = ck (l.take m) := by first | exact Q31 | simpa using Q31
   refine cd_skip (nx_then (cd_seq (cd_region ?_)))
   refine mvs rfl ?_
   refine mvi rfl ?_
   refine st_val (ro_takeN (m := m) ScCode_e23 rfl rfl (by omega)) ?_
   have hz30 : w.heap.size ≤ (w30).heap.size := ((From.rfl_.next D30)).size
   refine st_call ScCode_k14 (get_w (some ⟨b0, o0, none⟩) c m (l.take m) hbT _ (hrT.from_ (From.rfl_.next D30))) ?_
   rintro v30 w32 ⟨hn30, E30⟩
   rcases hn30 with ⟨hg30, rfl⟩ | ⟨ss, A30, c30, hg30, rfl, hos⟩
   · refine mvt rfl ?_
     refine st_val (ro_extract rfl rfl) ?_
     refine st_val (ro_extract rfl rfl) ?_
     refine ass rfl ?_
     refine asi rfl ?_
     refine st_nil (nx_then (cd_seq (cd_seq (cd_region ?_))))
     refine mvi rfl ?_
     refine st_val (ro_neq rfl rfl) ?_
     refine mvb rfl ?_
     refine st_split (t := 35) rfl (fun Q33 => ?_) (fun Q33 => ?_)
     rotate_left
     · with_reducible replace Q33 := bx_f Q33
       exfalso; omega
     with_reducible replace Q33 := bx_t Q33
     refine st_gno rfl rfl ?_
     refine st_gno rfl rfl ?_
     refine st_gno rfl rfl ?_
     refine st_gno rfl rfl ?_
     refine st_val (ro_pickT (v := .bool _) rfl rfl) ?_
     refine st_nil (nx_then ?_)
     refine cd_condT rfl ?_
     refine cd_seq (cd_region ?_)
     refine asp rfl ?_
     refine asi rfl ?_
     refine st_nil (nx_then (cd_ret (rt_then ?_)))
     refine res2 (v := .pointer _) (v' := .int _ _) rfl rfl rfl ?_
     exact ⟨.inr ⟨fun ds2 hg => (by
       have h1 := isD_get hg
       rw [← hm, hg30] at h1
       have h2 := fS_len ds2
       cases h1
       all_goals omega), rfl⟩, ((From.rfl_.next D30).next E30)⟩
   obtain ⟨hsz, hsl⟩ := getB_sizes hbT hg30
   refine mvt rfl ?_
   refine st_val (ro_extract rfl rfl) ?_
   refine st_val (ro_extract rfl rfl) ?_
   refine ass rfl ?_
   refine asi rfl ?_
   refine st_nil (nx_then (cd_seq (cd_seq (cd_region ?_))))
   refine mvi rfl ?_
   refine st_val (ro_neq rfl rfl) ?_
   refine mvb rfl ?_
   refine st_split (t := 35) rfl (fun Q55 => ?_) (fun Q55 => ?_)
   · with_reducible replace Q55 := bx_t Q55
     exfalso; omega
   with_reducible replace Q55 := bx_f Q55
   refine st_unguard rfl ?_
   refine mvs rfl ?_
   refine st_unguard rfl ?_
   refine st_val (ro_len ScCode_l39 rfl) ?_
   refine st_unguard rfl ?_
   refine st_val (ro_remN (a := ss.length) (b := 2) rfl rfl (by decide)) ?_
   refine st_unguard rfl ?_
   refine st_val (ro_neq rfl rfl) ?_
   refine st_val (ro_pickF (v := .bool _) rfl rfl) ?_
   refine st_nil (nx_then ?_)
   refine cd_cond rfl (fun Q56 => ?_) (fun Q56 => ?_)
   · with_reducible replace Q56 := bx_t Q56
     refine cd_seq (cd_region ?_)
     refine asp rfl ?_
     refine asi rfl ?_
     refine st_nil (nx_then (cd_ret (rt_then ?_)))
     refine res2 (v := .pointer _) (v' := .int _ _) rfl rfl rfl ?_
     exact ⟨.inr ⟨fun ds2 hg => (by
       have h1 := isD_get hg
       rw [← hm, hg30] at h1
       have h2 := fS_len ds2
       cases h1
       all_goals omega), rfl⟩, ((From.rfl_.next D30).next E30)⟩
   with_reducible replace Q56 := bx_f Q56
   try have hev : ss.length % 2 = 0 := by omega
   refine cd_skip (nx_then (cd_seq (cd_region ?_)))
   refine ass rfl ?_
   refine st_nil (nx_then (cd_seq (cd_seq (cd_region ?_))))
   refine asi rfl ?_
   refine st_nil (nx_then (cd_block ?_))
   refine cd_loop (G := Nat × Option Addr × Nat) [41, 42, 43, 44, 45, 46, 47, 48, 49, 50, 51, 52, 53, 54, 55, 56, 57, 58, 59] (fun (k, A7, c7) => [(8, .int .i64 ((2 * k : Nat) : Int)), (7, .slice A7 k c7)]) (fun (k, A7, c7) w' => 2 * k ≤ ss.length ∧ w'.ownsRow w.heap.size 43 2 (.slice A7 k c7) k (List.flatMap dV (uS (ss.take (2 * k)))) ∧ w'.ownsRow w.heap.size 9 1 (.slice A30 ss.length c30) ss.length (ss.map Value.string) ∧ From w w') (fun (k, _, _) => ss.length - 2 * k) ((0, none, 0)) ⟨rfl, rfl, trivial⟩ ?_ ?_
   · exact ⟨Nat.zero_le _, World.ownsRow_nil _ _ _ _, own_le (hos.kept_from From.rfl_) hz30, ((From.rfl_.next D30).next E30)⟩
   rintro ⟨k, A7, c7⟩ ρ57 w57 ⟨hk, ho7, ho30, hB⟩
   refine cd_seq (cd_seq (cd_region ?_))
   refine mvi rfl ?_
   refine mvs rfl ?_
   refine st_val (ro_len ScCode_l39 rfl) ?_
   refine st_val (ro_lss rfl rfl) ?_
   refine st_nil (nx_then ?_)
   refine cd_cond rfl (fun Q58 => ?_) (fun Q58 => ?_)
   · with_reducible replace Q58 := of_decide_eq_true Q58
     obtain ⟨bS, hA30⟩ := own_some ho30 (by omega)
     subst hA30
     refine cd_skip (nx_then (cd_seq (cd_block ?_)))
     apply cd_invP [(0, 47, fun _ v _ => v = _), (1, 48, fun _ v _ => v = _), (2, 49, fun _ v _ => v = _), (3, 50, fun _ v _ => v = _), (4, 51, fun S v w' => v = .string (ss.getD (2 * k) ⟨#[]⟩)), (5, 52, fun _ v _ => v = _), (6, 53, fun _ v _ => v = _), (7, 54, fun _ v _ => v = _), (8, 55, fun _ v _ => v = _), (9, 56, fun S v w' => v = .string (ss.getD (2 * k + 1) ⟨#[]⟩)), (10, 57, fun _ v _ => v = _), (11, 58, fun S v w' => ∃ g, v = .slice (some ⟨g, 0, none⟩) 1 1 ∧ (S 12 = false → Blk w' g 43 (dV (ss.getD (2 * k) ⟨#[]⟩, ss.getD (2 * k + 1) ⟨#[]⟩)).toArray)), (12, 59, fun S v w' => ∃ A' c', v = .slice A' (k + 1) c' ∧ w'.ownsRow w.heap.size 43 2 (.slice A' (k + 1) c') (k + 1) ((List.flatMap dV (uS (ss.take (2 * k)))) ++ dV (ss.getD (2 * k) ⟨#[]⟩, ss.getD (2 * k + 1) ⟨#[]⟩))), (13, 7, fun S v w' => ∃ A' c', v = .slice A' (k + 1) c' ∧ w'.ownsRow w.heap.size 43 2 (.slice A' (k + 1) c') (k + 1) ((List.flatMap dV (uS (ss.take (2 * k)))) ++ dV (ss.getD (2 * k) ⟨#[]⟩, ss.getD (2 * k + 1) ⟨#[]⟩)))] [12] (fun S w' => w57.heap.size ≤ w'.heap.size ∧ From w w' ∧ (S 12 = false → w'.ownsRow w.heap.size 43 2 (.slice A7 k c7) k ((List.flatMap dV (uS (ss.take (2 * k)))))) ∧ w'.ownsRow w.heap.size 9 1 (.slice (some ⟨bS, 0, none⟩) ss.length c30) ss.length (ss.map Value.string)) (by kernel_rfl) (by kernel_rfl) rfl rfl ⟨fun _ _ _ _ _ _ _ h => h, fun _ _ _ _ _ _ _ h => h, fun _ _ _ _ _ _ _ h => h, fun _ _ _ _ _ _ _ h => h, fun _ _ _ _ _ _ _ h => h, fun _ _ _ _ _ _ _ h => h, fun _ _ _ _ _ _ _ h => h, fun _ _ _ _ _ _ _ h => h, fun _ _ _ _ _ _ _ h => h, fun _ _ _ _ _ _ _ h => h, fun _ _ _ _ _ _ _ h => h, fun S i v w1 w2 hq hF ⟨g, h1, h2⟩ => ⟨g, h1, fun h0 => (h2 (setF h0)).from_ hF⟩, fun S i v w1 w2 hq hF ⟨g, c', h1, h2⟩ => ⟨g, c', h1, h2.kept_from hF⟩, fun S i v w1 w2 hq hF ⟨g, c', h1, h2⟩ => ⟨g, c', h1, h2.kept_from hF⟩, trivial⟩ (fun S i w1 w2 hq hF h => ⟨Nat.le_trans h.1 hF.size, h.2.1.next hF, fun h0 => (h.2.2.1 (setF h0)).kept_from hF, h.2.2.2.kept_from hF⟩) (⟨Nat.le_refl _, (hB).d1, fun _ => ho7.kept_from From.rfl_.d1, ho30.kept_from From.rfl_.d1⟩)
     case hstep =>
      refine ⟨?_, ?_⟩
      · rintro S L' w59 hU hmo hme hI hM hC hS ⟨-⟩
        have hM' := hM
        obtain ⟨hz59, hB59, hoR, ho30⟩ := hM'
        have e7 := hI.old (i := 13) (.tail _ (.tail _ (.tail _ (.tail _ (.tail _ (.tail _ (.tail _ (.tail _ (.tail _ (.tail _ (.tail _ (.tail _ (.tail _ (.head _)))))))))))))) (closed_old hC (j := 13) rfl (by kernel_rfl) hS)
        exact stepQ_ro [(7, _)] hU hmo hme hI hM (.head _) rfl rfl (by kernel_rfl) ⟨e7, trivial⟩ (ro_move (v := .slice _ _ _) rfl) From.rfl_ rfl
      refine ⟨?_, ?_⟩
      · rintro S L' w60 hU hmo hme hI hM hC hS ⟨-⟩
        have hM' := hM
        obtain ⟨hz60, hB60, hoR, ho30⟩ := hM'
        have e5 := hI.1 5 (outP rfl)
        exact stepQ_ro [(5, _)] hU hmo hme hI hM (.tail _ (.head _)) rfl rfl (by kernel_rfl) ⟨e5, trivial⟩ (ro_move (v := .slice _ _ _) rfl) From.rfl_ rfl
      refine ⟨?_, ?_⟩
      · rintro S L' w61 hU hmo hme hI hM hC hS ⟨-⟩
        have hM' := hM
        obtain ⟨hz61, hB61, hoR, ho30⟩ := hM'
        have e8 := hI.1 8 (outP rfl)
        exact stepQ_ro [(8, _)] hU hmo hme hI hM (.tail _ (.tail _ (.head _))) rfl rfl (by kernel_rfl) ⟨e8, trivial⟩ (ro_move (v := .int _ _) rfl) From.rfl_ rfl
      refine ⟨?_, ?_⟩
      · rintro S L' w62 hU hmo hme hI hM hC hS ⟨d1, d2, -⟩
        have hM' := hM
        obtain ⟨hz62, hB62, hoR, ho30⟩ := hM'
        obtain ⟨v62_48, e48, h48⟩ := hI.get (i := 1) (.tail _ (.head _)) d1
        obtain rfl := h48
        obtain ⟨v62_49, e49, h49⟩ := hI.get (i := 2) (.tail _ (.tail _ (.head _))) d2
        obtain rfl := h49
        exact stepQ_ro [(48, _), (49, _)] hU hmo hme hI hM (.tail _ (.tail _ (.tail _ (.head _)))) rfl rfl (by kernel_rfl) ⟨e48, e49, trivial⟩ (ro_indexAddr1 ScCode_e39 rfl rfl (by omega)) From.rfl_ rfl
      refine ⟨?_, ?_⟩
      · rintro S L' w63 hU hmo hme hI hM hC hS ⟨d3, -⟩
        have hM' := hM
        obtain ⟨hz63, hB63, hoR, ho30⟩ := hM'
        obtain ⟨v63_50, e50, h50⟩ := hI.get (i := 3) (.tail _ (.tail _ (.tail _ (.head _)))) d3
        obtain rfl := h50
        exact stepQ_ro [(50, _)] hU hmo hme hI hM (.tail _ (.tail _ (.tail _ (.tail _ (.head _))))) rfl rfl (by kernel_rfl) ⟨e50, trivial⟩ (ro_load (v := .string (ss.getD (2 * k) ⟨#[]⟩)) ScCode_g9 rfl (own_str ho30 (by omega))) (From.rfl_) (rfl)
      refine ⟨?_, ?_⟩
      · rintro S L' w64 hU hmo hme hI hM hC hS ⟨-⟩
        have hM' := hM
        obtain ⟨hz64, hB64, hoR, ho30⟩ := hM'
        have e5 := hI.1 5 (outP rfl)
        exact stepQ_ro [(5, _)] hU hmo hme hI hM (.tail _ (.tail _ (.tail _ (.tail _ (.tail _ (.head _)))))) rfl rfl (by kernel_rfl) ⟨e5, trivial⟩ (ro_move (v := .slice _ _ _) rfl) From.rfl_ rfl
      refine ⟨?_, ?_⟩
      · rintro S L' w65 hU hmo hme hI hM hC hS ⟨-⟩
        have hM' := hM
        obtain ⟨hz65, hB65, hoR, ho30⟩ := hM'
        have e8 := hI.1 8 (outP rfl)
        exact stepQ_ro [(8, _)] hU hmo hme hI hM (.tail _ (.tail _ (.tail _ (.tail _ (.tail _ (.tail _ (.head _))))))) rfl rfl (by kernel_rfl) ⟨e8, trivial⟩ (ro_move (v := .int _ _) rfl) From.rfl_ rfl
      refine ⟨?_, ?_⟩
      · rintro S L' w66 hU hmo hme hI hM hC hS ⟨d6, -⟩
        have hM' := hM
        obtain ⟨hz66, hB66, hoR, ho30⟩ := hM'
        obtain ⟨v66_53, e53, h53⟩ := hI.get (i := 6) (.tail _ (.tail _ (.tail _ (.tail _ (.tail _ (.tail _ (.head _))))))) d6
        obtain rfl := h53
        exact stepQ_ro [(53, _)] hU hmo hme hI hM (.tail _ (.tail _ (.tail _ (.tail _ (.tail _ (.tail _ (.tail _ (.head _)))))))) rfl rfl (by kernel_rfl) ⟨e53, trivial⟩ (ro_addN (b := 1) rfl rfl (by omega)) From.rfl_ rfl
      refine ⟨?_, ?_⟩
      · rintro S L' w67 hU hmo hme hI hM hC hS ⟨d5, d7, -⟩
        have hM' := hM
        obtain ⟨hz67, hB67, hoR, ho30⟩ := hM'
        obtain ⟨v67_52, e52, h52⟩ := hI.get (i := 5) (.tail _ (.tail _ (.tail _ (.tail _ (.tail _ (.head _)))))) d5
        obtain rfl := h52
        obtain ⟨v67_54, e54, h54⟩ := hI.get (i := 7) (.tail _ (.tail _ (.tail _ (.tail _ (.tail _ (.tail _ (.tail _ (.head _)))))))) d7
        obtain rfl := h54
        exact stepQ_ro [(52, _), (54, _)] hU hmo hme hI hM (.tail _ (.tail _ (.tail _ (.tail _ (.tail _ (.tail _ (.tail _ (.tail _ (.head _))))))))) rfl rfl (by kernel_rfl) ⟨e52, e54, trivial⟩ (ro_indexAddr1 ScCode_e39 rfl rfl (by omega)) From.rfl_ rfl
      refine ⟨?_, ?_⟩
      · rintro S L' w68 hU hmo hme hI hM hC hS ⟨d8, -⟩
        have hM' := hM
        obtain ⟨hz68, hB68, hoR, ho30⟩ := hM'
        obtain ⟨v68_55, e55, h55⟩ := hI.get (i := 8) (.tail _ (.tail _ (.tail _ (.tail _ (.tail _ (.tail _ (.tail _ (.tail _ (.head _))))))))) d8
        obtain rfl := h55
        exact stepQ_ro [(55, _)] hU hmo hme hI hM (.tail _ (.tail _ (.tail _ (.tail _ (.tail _ (.tail _ (.tail _ (.tail _ (.tail _ (.head _)))))))))) rfl rfl (by kernel_rfl) ⟨e55, trivial⟩ (ro_load (v := .string (ss.getD (2 * k + 1) ⟨#[]⟩)) ScCode_g9 rfl (own_str ho30 (by omega))) (From.rfl_) (rfl)
      refine ⟨?_, ?_⟩
      · rintro S L' w69 hU hmo hme hI hM hC hS ⟨d4, d9, -⟩
        have hM' := hM
        obtain ⟨hz69, hB69, hoR, ho30⟩ := hM'
        obtain ⟨v69_51, e51, h51⟩ := hI.get (i := 4) (.tail _ (.tail _ (.tail _ (.tail _ (.head _))))) d4
        obtain rfl := h51
        obtain ⟨v69_56, e56, h56⟩ := hI.get (i := 9) (.tail _ (.tail _ (.tail _ (.tail _ (.tail _ (.tail _ (.tail _ (.tail _ (.tail _ (.head _)))))))))) d9
        obtain rfl := h56
        exact stepQ_ro [(51, _), (56, _)] hU hmo hme hI hM (.tail _ (.tail _ (.tail _ (.tail _ (.tail _ (.tail _ (.tail _ (.tail _ (.tail _ (.tail _ (.head _))))))))))) rfl rfl (by kernel_rfl) ⟨e51, e56, trivial⟩ (ro_build (l := [(0, .tmp 51), (1, .tmp 56)]) (ScCode_b43_0_1 _ _)) From.rfl_ rfl
      refine ⟨?_, ?_⟩
      · rintro S L' w70 hU hmo hme hI hM hC hS ⟨d10, -⟩
        have hM' := hM
        obtain ⟨hz70, hB70, hoR, ho30⟩ := hM'
        obtain ⟨v70_57, e57, h57⟩ := hI.get (i := 10) (.tail _ (.tail _ (.tail _ (.tail _ (.tail _ (.tail _ (.tail _ (.tail _ (.tail _ (.tail _ (.head _))))))))))) d10
        obtain rfl := h57
        exact stepQ_ro [(57, _)] hU hmo hme hI hM (.tail _ (.tail _ (.tail _ (.tail _ (.tail _ (.tail _ (.tail _ (.tail _ (.tail _ (.tail _ (.tail _ (.head _)))))))))))) rfl rfl (by kernel_rfl) ⟨e57, trivial⟩ (ro_litK2s ScCode_q32 rfl rfl rfl) (From.rfl_.new _) (⟨_, rfl, fun _ => Blk.new _ _ _⟩)
      refine ⟨?_, ?_⟩
      · rintro S L' w71 hU hmo hme hI hM hC hS ⟨d0, d11, -⟩
        have hM' := hM
        obtain ⟨hz71, hB71, hoR, ho30⟩ := hM'
        obtain ⟨v71_47, e47, h47⟩ := hI.get (i := 0) (.head _) d0
        obtain rfl := h47
        obtain ⟨v71_58, e58, h58⟩ := hI.get (i := 11) (.tail _ (.tail _ (.tail _ (.tail _ (.tail _ (.tail _ (.tail _ (.tail _ (.tail _ (.tail _ (.tail _ (.head _)))))))))))) d11
        obtain ⟨g58, rfl, hk58⟩ := h58
        have h7 := hoR hS
        obtain ⟨A', c', w2, hR, ho, hg⟩ := ro_appendB (P := Tryd.prog) (ρ := ev 68 [(47, _), (58, _)]) (s := .tmp 47) (x := .tmp 58) (j := 1) (news := dV (ss.getD (2 * k) ⟨#[]⟩, ss.getD (2 * k + 1) ⟨#[]⟩)) ScCode_q32 rfl (by decide) rfl h7 hB71.size rfl rfl ⟨g58, 0, rfl, (hk58 hS).whole⟩ (by simp [dV, Value.oneCell']) (by omega) (by omega)
        exact stepM_ro [(47, _), (58, _)] hU hI (.tail _ (.tail _ (.tail _ (.tail _ (.tail _ (.tail _ (.tail _ (.tail _ (.tail _ (.tail _ (.tail _ (.tail _ (.head _))))))))))))) rfl (by kernel_rfl) ⟨e47, e58, trivial⟩ hR ⟨Nat.le_trans hz71 hg.size, hB71.grew hg (fun q hq => (own_at h7 q hq).1), (fun h0 => (by rw [setS] at h0; cases h0)), own_aside ho30 hg (own_apart h7 ho30 (by decide))⟩ ⟨A', c', rfl, ho⟩ ⟨fun _ _ _ h => h, fun _ _ _ h => h, fun _ _ _ h => h, fun _ _ _ h => h, fun _ _ _ h => h, fun _ _ _ h => h, fun _ _ _ h => h, fun _ _ _ h => h, fun _ _ _ h => h, fun _ _ _ h => h, fun _ _ _ h => h, fun _ _ _ ⟨g, h1, h2⟩ => ⟨g, h1, fun h0 => (by rw [setS] at h0; cases h0)⟩, (fun h => by cases h), (fun _ h0 => by rw [closed_old hC (j := 13) rfl (by kernel_rfl) hS] at h0; cases h0), trivial⟩
      refine ⟨?_, ?_⟩
      · rintro S L' w72 hU hmo hme hI hM hC hS ⟨d12, d12, d0, d1, d2, d3, d4, d5, d6, d7, d8, d9, d10, d11, d12, -⟩
        have hM' := hM
        obtain ⟨hz72, hB72, hoR, ho30⟩ := hM'
        obtain ⟨v72_59, e59, h59⟩ := hI.get (i := 12) (.tail _ (.tail _ (.tail _ (.tail _ (.tail _ (.tail _ (.tail _ (.tail _ (.tail _ (.tail _ (.tail _ (.tail _ (.head _))))))))))))) d12
        obtain ⟨A590, c590, rfl, ho590⟩ := h59
        exact stepQ_ro [(59, _)] hU hmo hme hI hM (.tail _ (.tail _ (.tail _ (.tail _ (.tail _ (.tail _ (.tail _ (.tail _ (.tail _ (.tail _ (.tail _ (.tail _ (.tail _ (.head _)))))))))))))) rfl rfl (by kernel_rfl) ⟨e59, trivial⟩ (ro_assign rfl) (From.rfl_) (⟨A590, c590, rfl, ho590⟩)
      exact trivial
     case hend =>
      intro w73 hM
      obtain ⟨hz73, hB73, hoR, ho30⟩ := hM
      rintro v73_47 rfl v73_48 rfl v73_49 rfl v73_50 rfl v73_51 rfl v73_52 rfl v73_53 rfl v73_54 rfl v73_55 rfl v73_56 rfl v73_57 rfl v73_58 ⟨g58, rfl, hk58⟩ v73_59 ⟨A590, c590, rfl, ho590⟩ v73_7 ⟨A70, c70, rfl, ho70⟩
      refine allP_nil ?_
      refine nx_block (nx_then (cd_region ?_))
      refine mvi rfl ?_
      refine st_val (ro_addN (b := 2) rfl rfl (by omega)) ?_
      refine asi rfl ?_
      refine st_nil ?_
      refine nx_cut ((k + 1, A70, c70)) ⟨(int_eq (by omega)), rfl, trivial⟩ (by (iterate 42 refine agr_cons rfl ?_); exact agr_rfl) ⟨?_, ?_⟩
      · exact ⟨by omega, by rw [show 2 * (k + 1) = 2 * k + 2 by omega, uS_take ss k (by omega), List.flatMap_append]; exact ho70, ho30, hB73⟩
      · show ss.length - 2 * (k + 1) < ss.length - 2 * k; omega
   with_reducible replace Q58 := of_decide_eq_false Q58
   have hke : 2 * k = ss.length := by omega
   rw [hke, List.take_length] at ho7
   have hul := uS_len ss hev
   refine cd_exit ?_
   refine ex_then (ex_then (ex_block (nx_then (cd_seq (cd_region ?_)))))
   refine mvs rfl ?_
   have hz62 : w.heap.size ≤ (w57).heap.size := (hB).size
   refine st_call ScCode_k15 (new_s A7 c7 k (uS ss) _ ((RowK.own dV_len (by decide) ho7).2.from_ From.rfl_) (by omega) (by omega) (fun h9 => by subst h9; exact ⟨own_none0 ho7, own_none ho7⟩)) ?_
   rintro v62 w74 ⟨hs62, E62⟩
   rcases hs62 with ⟨hck, rfl⟩ | ⟨hck, s, rfl, hsg⟩
   · have hb33 : (docE (uS ss) != 0) = true := by simpa using hck
     refine mvt rfl ?_
     refine st_val (ro_extract rfl rfl) ?_
     refine st_val (ro_extract rfl rfl) ?_
     refine asp rfl ?_
     refine asi rfl ?_
     refine st_nil (nx_then (cd_seq (cd_seq (cd_region ?_))))
     refine mvi rfl ?_
     refine st_val (ro_neq rfl rfl) ?_
     refine st_nil (nx_then ?_)
     refine cd_cond rfl (fun Q75 => ?_) (fun Q75 => ?_)
     rotate_left
     · with_reducible replace Q75 := bx_f Q75
       exfalso; omega
     with_reducible replace Q75 := bx_t Q75
     refine cd_seq (cd_region ?_)
     refine asp rfl ?_
     refine asi rfl ?_
     refine st_nil (nx_then (cd_ret (rt_then ?_)))
     refine res2 (v := .pointer _) (v' := .int _ _) rfl rfl rfl ?_
     exact ⟨.inr ⟨fun ds2 hg => (by
         have h1 := isD_get hg
         rw [← hm, hg30] at h1
         have h3 : ss = fS ds2 := Option.some.inj h1
         rw [h3, uS_fS] at hck
         exact hck hg.1), rfl⟩, (hB.next E62)⟩
   refine mvt rfl ?_
   refine st_val (ro_extract rfl rfl) ?_
   refine st_val (ro_extract rfl rfl) ?_
   refine asp rfl ?_
   refine asi rfl ?_
   refine st_nil (nx_then (cd_seq (cd_seq (cd_region ?_))))
   refine mvi rfl ?_
   refine st_val (ro_neq rfl rfl) ?_
   refine st_nil (nx_then ?_)
   refine cd_cond rfl (fun Q76 => ?_) (fun Q76 => ?_)
   · with_reducible replace Q76 := bx_t Q76
     exfalso; omega
   with_reducible replace Q76 := bx_f Q76
   refine cd_skip (nx_then (cd_seq (cd_region ?_)))
   refine mvp rfl ?_
   refine asp rfl ?_
   refine asi rfl ?_
   refine st_nil (nx_then (cd_ret ?_))
   refine res2 (v := .pointer _) (v' := .int _ _) rfl rfl rfl ?_
   exact ⟨.inl ⟨uS ss, s, isD_of hl (by omega) (by rw [← hm]; exact hyck) (by rw [← hm]; exact hg30) hev hck, rfl, hsg.le hz62⟩, (hB.next E62)⟩
end Go.Proofs.YtglndihdhaaccaaDoor

namespace Go.Proofs.YtglndihdhaaccaaDoor
open Go.RowKit
theorem toList_iff {a b : ByteArray} : a.toList = b.toList ↔ a = b := ⟨str_inj, fun h => by rw [h]⟩
theorem eqDc (a b : Dc) (w : World) : (Op.equalIn 10000 43 (.agg (dV a).toArray) (.agg (dV b).toArray)).run Tryd.prog w = .ok (decide (a = b)) w := by
  have u9 := Tryd.underlying9
  have a9 := Tryd.isAgg9
  have z9 := Tryd.sizeOf9
  have hS : Tryd.prog.underlying 43 = some (.struct (Tryd.prog.fieldsOf 43)) := by kernel_rfl
  have hp : Tryd.prog.stoodInHeld 43 = false := by kernel_rfl
  obtain ⟨a1, a2⟩ := a
  obtain ⟨b1, b2⟩ := b
  show (Op.equalIn 10000 43 (.agg #[.string a1, .string a2]) (.agg #[.string b1, .string b2])).run Tryd.prog w = _
  rw [show (10000 : Nat) = 9999 + 1 from rfl, run_equalIn_agg w 9999 43 _ _ hS hp]
  simp only [Program.fieldsOf, Tryd.underlying43 ]
  go_simp
  simp only [toList_iff]
  by_cases h1 : a1 = b1 <;> by_cases h2 : a2 = b2 <;> simp [h1, h2]
section
variable {ρ : Operand → Value} {w : World} {yt : TypeId} {x y : Operand}
theorem ro_neqDc {a b : Dc} (hx : ρ x = .agg (dV a).toArray) (hy : ρ y = .agg (dV b).toArray) : RO Tryd.prog ρ (.binOp .neq 43 x y yt) w (.bool (!decide (a = b))) w := by
  refine ro_bin hx hy (run_eqGuard_agg w _ _ _ _ _ _ (by kernel_rfl)) ?_
  rw [run_neq_struct, eqDc]
  rfl
end
end Go.Proofs.YtglndihdhaaccaaDoor

namespace Go.Proofs.YtglndihdhaaccaaDoor
open Go.RowKit Go.ChangeShapes Go.WideShapes Go.ChangeAt
section
variable {P : Program} {ρ : Operand → Value} {x : Operand} {t : TypeId} {s : ByteArray} {w : World}
end
/-- the places in one text, as far as it is looked at -/
def ksTo (t q : List Nat) (k : Nat) : List Nat := (List.range k).filter fun i => q.isPrefixOf (t.drop i)
/-! ### arguments -/
abbrev docT : Ty := .pr .str (.pr .str .unit)
def Small (s : ByteArray) : Prop := s.size ≤ 140737488351232
end Go.Proofs.YtglndihdhaaccaaDoor

namespace Go.Proofs.YtglndihdhaaccaaDoor
open Go.RowKit
open Go.ChangeShapes Go.WideShapes Go.ChangeAt
open Go.Proofs.YtglndihdhaaccaaDoor.SA
theorem SegRef_g43 : aggQ Tryd.prog 43 = some true := by kernel_rfl
theorem SegRef_z43 : sizeQ Tryd.prog 43 = some 2 := by kernel_rfl
theorem SegRef_l32 : (elemQ Tryd.prog 32).isSome = true := by kernel_rfl
theorem SegRef_e32 : elemQ Tryd.prog 32 = some (43, 2) := by kernel_rfl
theorem SegRef_g9 : aggQ Tryd.prog 9 = some false := by kernel_rfl
theorem SegRef_f43_1 : fieldQ Tryd.prog 43 1 = some 1 := by kernel_rfl
theorem SegRef_f43_0 : fieldQ Tryd.prog 43 0 = some 0 := by kernel_rfl
theorem SegRef_k16 : callable Tryd.prog 16 = true := by kernel_rfl
set_option maxHeartbeats 400000 in
theorem eqDocs_rt (A B : Option Addr) (ca cb n m : Nat) (a b : List Dc) (w : World) (ha : RowK 2 dV w A a) (hb : RowK 2 dV w B b) (hn : n = a.length) (hm : m = b.length) (hl : n ≤ 100000000) :
    Rt Tryd.prog 19 [.slice A n ca, .slice B m cb] w (fun v w' => v = .bool (decide (a = b)) ∧ From w w') := by
  refine enter (n := 26) Tryd.func19 rfl rfl rfl ?_
  refine cd_seq (cd_region ?_)
  refine asb rfl ?_
  refine st_nil (nx_then (cd_seq (cd_seq (cd_region ?_))))
  refine mvs rfl ?_
  refine st_val (ro_len SegRef_l32 rfl) ?_
  refine mvs rfl ?_
  refine st_val (ro_len SegRef_l32 rfl) ?_
  refine st_val (ro_neq rfl rfl) ?_
  refine st_nil (nx_then ?_)
  refine cd_cond rfl (fun Q1 => ?_) (fun Q1 => ?_)
  · with_reducible replace Q1 := bx_t Q1
    refine cd_seq (cd_region ?_)
    refine asb rfl ?_
    refine st_nil (nx_then (cd_ret (rt_then ?_)))
    refine res1 (v := .bool _) rfl rfl ?_
    exact ⟨by rw [decide_eq_false]; rintro rfl; omega, From.rfl_⟩
  with_reducible replace Q1 := bx_f Q1
  refine cd_skip (nx_then (cd_seq (cd_seq (cd_region ?_))))
  refine asi rfl ?_
  refine st_nil (nx_then (cd_block ?_))
  refine cd_loop (G := Nat) [4, 11, 12, 13, 14, 15, 16, 17, 18, 19, 20, 21, 22, 23, 24, 25] (fun k => [(5, .int .i64 (k : Nat))]) (fun k w' => k ≤ n ∧ a.take k = b.take k ∧ From w w') (fun k => n - k) (0) ⟨rfl, trivial⟩ ?_ ?_
  · exact ⟨Nat.zero_le _, rfl, From.rfl_⟩
  rintro k ρ2 w2 ⟨hk, ht, hB⟩
  refine cd_seq (cd_seq (cd_region ?_))
  refine mvi rfl ?_
  refine mvs rfl ?_
  refine st_val (ro_len SegRef_l32 rfl) ?_
  refine st_val (ro_lss rfl rfl) ?_
  refine st_nil (nx_then ?_)
  refine cd_cond rfl (fun Q3 => ?_) (fun Q3 => ?_)
  · with_reducible replace Q3 := of_decide_eq_true Q3
    obtain ⟨ba, oa, rfl, hca⟩ := ha (by omega)
    obtain ⟨bb, ob, rfl, hcb⟩ := hb (by omega)
    refine cd_skip (nx_then (cd_seq (cd_block (cd_seq ?_))))
    apply cd_drawnD 9 [(17, eqp _), (18, eqp _), (19, eqp _), (20, eqp (.agg (dV a[k]).toArray)), (21, eqp _), (22, eqp _), (23, eqp _), (24, eqp (.agg (dV b[k]).toArray)), (25, eqp _)] (by repeat first | exact pq_body | refine pq_then ?_ | refine pq_block ?_) (by kernel_rfl) (by kernel_rfl) ⟨eqp_mono _, eqp_mono _, eqp_mono _, eqp_mono _, eqp_mono _, eqp_mono _, eqp_mono _, eqp_mono _, eqp_mono _, trivial⟩
    case hop =>
     refine ⟨?_, ?_⟩
     · rintro - w5 D5
       show OpOK _ _ _ _ _ _ _
       exact ok_pure (ro_move (v := .slice _ _ _) rfl) rfl
     refine ⟨?_, ?_⟩
     · rintro - w6 D6
       show OpOK _ _ _ _ _ _ _
       exact ok_pure (ro_move (v := .int _ _) rfl) rfl
     refine ⟨?_, ?_⟩
     · rintro - w7 D7
       rintro _ rfl _ rfl
       show OpOK _ _ _ _ _ _ _
       exact ok_pure (ro_indexAddrN SegRef_e32 rfl rfl (by omega)) rfl
     refine ⟨?_, ?_⟩
     · rintro - w8 D8
       rintro _ rfl
       show OpOK _ _ _ _ _ _ _
       exact ok_pure (ro_loadA (cs := dV a[k]) SegRef_g43 SegRef_z43 rfl (rangeF (hB.next D8) (hca k (by omega)))) rfl
     refine ⟨?_, ?_⟩
     · rintro - w9 D9
       show OpOK _ _ _ _ _ _ _
       exact ok_pure (ro_move (v := .slice _ _ _) rfl) rfl
     refine ⟨?_, ?_⟩
     · rintro - w10 D10
       show OpOK _ _ _ _ _ _ _
       exact ok_pure (ro_move (v := .int _ _) rfl) rfl
     refine ⟨?_, ?_⟩
     · rintro - w11 D11
       rintro _ rfl _ rfl
       show OpOK _ _ _ _ _ _ _
       exact ok_pure (ro_indexAddrN SegRef_e32 rfl rfl (by omega)) rfl
     refine ⟨?_, ?_⟩
     · rintro - w12 D12
       rintro _ rfl
       show OpOK _ _ _ _ _ _ _
       exact ok_pure (ro_loadA (cs := dV b[k]) SegRef_g43 SegRef_z43 rfl (rangeF (hB.next D12) (hcb k (by omega)))) rfl
     refine ⟨?_, ?_⟩
     · rintro - w13 D13
       rintro v13_20 rfl v13_24 rfl
       show OpOK _ _ _ _ _ _ _
       exact ok_pure (ro_neqDc rfl rfl) rfl
     exact trivial
    case hend =>
     intro w14 D14
     rintro _ rfl _ rfl _ rfl v20 rfl _ rfl _ rfl _ rfl v24 rfl _ rfl
     show St _ _ _ _ _ _ _
     refine st_nil (nx_then ?_)
     refine cd_cond rfl (fun Q15 => ?_) (fun Q15 => ?_)
     · with_reducible (replace Q15 := bn_t Q15; replace Q15 := of_decide_eq_false Q15)
       have hne : ¬ a[k] = b[k] := by simpa using Q15
       refine cd_seq (cd_region ?_)
       refine asb rfl ?_
       refine st_nil (nx_then (cd_ret (rt_block (rt_then (rt_then (rt_block (rt_then ?_)))))))
       refine res1 (v := .bool _) rfl rfl ?_
       exact ⟨by rw [decide_eq_false]; rintro rfl; exact hne rfl, (hB.next D14)⟩
     with_reducible (replace Q15 := bn_f Q15; replace Q15 := of_decide_eq_true Q15)
     have heq : a[k] = b[k] := by simpa using Q15
     refine cd_skip (nx_block (nx_then (cd_region ?_)))
     refine mvi rfl ?_
     refine st_val (ro_addN (b := 1) rfl rfl (by omega)) ?_
     refine asi rfl ?_
     refine st_nil ?_
     refine nx_cut (k + 1) ⟨(by first | rfl | (refine int_eq ?_; omega)), trivial⟩ (by (iterate 33 refine agr_cons rfl ?_); exact agr_rfl) ⟨?_, ?_⟩
     · exact ⟨by omega, take_eq (by omega) (by omega) ht heq, (hB.next D14)⟩
     · show n - (k + 1) < n - k; omega
  with_reducible replace Q3 := of_decide_eq_false Q3
  refine cd_exit ?_
  refine ex_then (ex_then (ex_block (nx_then (cd_seq (cd_region ?_)))))
  refine asb rfl ?_
  refine st_nil (nx_then (cd_ret ?_))
  refine res1 (v := .bool _) rfl rfl ?_
  exact ⟨by rw [decide_eq_true (eq_ge (by omega) (by omega) ht)], hB⟩
set_option maxHeartbeats 400000 in
theorem refSize_rt (A : Option Addr) (c n : Nat) (ds : List Dc) (w : World) (hr : RowK 2 dV w A ds) (hn : n = ds.length) (hl : n ≤ 100000000) (hz : dsz ds ≤ 1000000000000000000) :
    Rt Tryd.prog 16 [.slice A n c] w (fun v w' => v = .int .i64 ((dsz ds : Nat) : Int) ∧ From w w') := by
  refine enter (n := 20) Tryd.func16 rfl rfl rfl ?_
  refine cd_seq (cd_region ?_)
  refine asi rfl ?_
  refine st_nil (nx_then (cd_seq (cd_region ?_)))
  refine asi rfl ?_
  refine st_nil (nx_then (cd_seq (cd_seq (cd_region ?_))))
  refine asi rfl ?_
  refine st_nil (nx_then (cd_block ?_))
  refine cd_loop (G := Nat) [5, 6, 7, 8, 9, 10, 11, 12, 13, 14, 15, 16, 17, 18] (fun i => [(3, .int .i64 (dsz (ds.take i) : Nat)), (4, .int .i64 (i : Nat))]) (fun i w' => i ≤ n ∧ From w w') (fun i => n - i) (0) ⟨rfl, rfl, trivial⟩ ?_ ?_
  · exact ⟨Nat.zero_le _, From.rfl_⟩
  rintro i ρ1 w1 ⟨hi, hB⟩
  refine cd_seq (cd_seq (cd_region ?_))
  refine mvi rfl ?_
  refine mvs rfl ?_
  refine st_val (ro_len SegRef_l32 rfl) ?_
  refine st_val (ro_lss rfl rfl) ?_
  refine st_nil (nx_then ?_)
  refine cd_cond rfl (fun Q2 => ?_) (fun Q2 => ?_)
  · with_reducible replace Q2 := of_decide_eq_true Q2
    obtain ⟨bd, od, rfl, hcd⟩ := hr (by omega)
    have hil : i < ds.length := by omega
    have hce := hcd i hil
    rw [← getD_get hil] at hce
    have hdt := dsz_take hil
    have hdl := dsz_le (ds := ds) (i + 1)
    refine cd_skip (nx_then (cd_seq (cd_block (cd_region ?_))))
    refine mvi rfl ?_
    refine mvs rfl ?_
    refine mvi rfl ?_
    refine st_val (ro_indexAddrN SegRef_e32 rfl rfl (by omega)) ?_
    refine st_val (ro_fieldAddr SegRef_f43_1 rfl) ?_
    refine st_val (ro_load SegRef_g9 rfl (by exact cellF hB (hce 1 _ rfl))) ?_
    refine st_val (ro_lenS (by kernel_rfl) rfl) ?_
    refine st_val (ro_addN rfl rfl (by omega)) ?_
    refine asi rfl ?_
    refine st_nil (nx_block (nx_then (cd_region ?_)))
    refine mvi rfl ?_
    refine st_val (ro_addN (b := 1) rfl rfl (by omega)) ?_
    refine asi rfl ?_
    refine st_nil ?_
    refine nx_cut (i + 1) ⟨(int_eq (by rw [dsz_take hil])), rfl, trivial⟩ (by (iterate 32 refine agr_cons rfl ?_); exact agr_rfl) ⟨?_, ?_⟩
    · exact ⟨by omega, hB⟩
    · show n - (i + 1) < n - i; omega
  with_reducible replace Q2 := of_decide_eq_false Q2
  refine cd_exit ?_
  refine ex_then (ex_then (ex_block (nx_then (cd_seq (cd_region ?_)))))
  refine mvi rfl ?_
  refine asi rfl ?_
  refine st_nil (nx_then (cd_ret ?_))
  refine res1 (v := .int _ _) rfl rfl ?_
  obtain rfl : i = n := by omega
  exact ⟨by rw [hn, List.take_length], hB⟩
theorem dsz_many {ds : List Dc} (h : ∀ d ∈ ds, d.2.size ≤ 2048) : dsz ds ≤ ds.length * 2048 := by
  induction ds with
  | nil => exact Nat.zero_le _
  | cons d ds ih =>
    have h1 := h d (List.mem_cons_self ..)
    have h2 := ih fun e he => h e (List.mem_cons_of_mem _ he)
    rw [dsz, List.length_cons]
    omega
theorem size_get {s : ByteArray} : (s.toList == (⟨#[]⟩ : ByteArray).toList) = true ↔ s.size = 0 := str_eq.trans ⟨size_zero, size_zero'⟩
set_option maxHeartbeats 2000000 in
theorem refDocs_rt (A : Option Addr) (c n : Nat) (ds : List Dc) (w : World) (hr : RowK 2 dV w A ds) (hn : n = ds.length) (hl : n ≤ 100000000) :
    Rt Tryd.prog 8 [.slice A n c] w (fun v w' => v = .int .i64 (docE ds) ∧ From w w') := by
  refine enter (n := 63) Tryd.func8 rfl rfl rfl ?_
  refine cd_seq (cd_region ?_)
  refine asi rfl ?_
  refine st_nil (nx_then (cd_seq (cd_seq (cd_region ?_))))
  refine asi rfl ?_
  refine st_nil (nx_then (cd_block ?_))
  refine cd_loop (G := Nat) [2, 5, 6, 7, 8, 9, 10, 11, 12, 13, 14, 15, 16, 17, 18, 19, 20, 21, 22, 23, 24, 25, 26, 27, 28, 29, 30, 31, 32, 33, 34, 35, 36, 37, 38, 39, 40, 41, 42, 43] (fun i => [(3, .int .i64 (i : Nat))]) (fun i w' => i ≤ n ∧ (∀ x, x < i → okI ds x) ∧ From w w') (fun i => n - i) (0) ⟨rfl, trivial⟩ ?_ ?_
  · exact ⟨Nat.zero_le _, fun x h => absurd h (by omega), From.rfl_⟩
  rintro i ρ1 w1 ⟨hi, hok, hB⟩
  refine cd_seq (cd_seq (cd_region ?_))
  refine mvi rfl ?_
  refine mvs rfl ?_
  refine st_val (ro_len SegRef_l32 rfl) ?_
  refine st_val (ro_lss rfl rfl) ?_
  refine st_nil (nx_then ?_)
  refine cd_cond rfl (fun Q2 => ?_) (fun Q2 => ?_)
  · with_reducible replace Q2 := of_decide_eq_true Q2
    obtain ⟨bd, od, rfl, hcd⟩ := hr (by omega)
    have hil : i < ds.length := by omega
    have hce := hcd i hil
    rw [← getD_get hil] at hce
    have hcp : 0 < i → w.rangeAt bd (od + (i - 1) * 2) (dV (ds.getD (i - 1) dd)) := fun h => by
      have h2 := hcd (i - 1) (by omega)
      rwa [← getD_get (show i - 1 < ds.length by omega)] at h2
    refine cd_skip (nx_then (cd_seq (cd_block (cd_seq ?_))))
    have hsp : (ds.getD i dd).1.size = 0 ∨ (1 ≤ (ds.getD i dd).1.size ∧ 64 < (ds.getD i dd).1.size) ∨ (1 ≤ (ds.getD i dd).1.size ∧ (ds.getD i dd).1.size ≤ 64 ∧ i = 0) ∨ (1 ≤ (ds.getD i dd).1.size ∧ (ds.getD i dd).1.size ≤ 64 ∧ 0 < i) := by omega
    rcases hsp with hc1 | ⟨hc1, hc2⟩ | ⟨hc1, hc2, hc3⟩ | ⟨hc1, hc2, hc3⟩
    · apply cd_drawnD 33 [(11, eqp _), (12, eqp _), (13, eqp _), (14, eqp _), (15, eqp (.string (ds.getD i dd).1)), (16, eqp _), (17, eqp _), (18, eqp _), (19, eqp _), (20, eqp _), (21, eqp _), (22, eqp _), (23, eqp _), (24, eqp _), (25, eqp _), (26, eqp _), (27, eqp _), (28, eqp _), (29, eqp _), (30, eqp _), (31, eqp _), (32, eqp _), (33, eqp _), (34, eqp _), (35, eqp _), (36, eqp _), (37, eqp _), (38, eqp _), (39, eqp _), (40, eqp _), (41, eqp _), (42, eqp _), (43, eqp _)] (by repeat first | exact pq_body | refine pq_then ?_ | refine pq_block ?_) (by kernel_rfl) (by kernel_rfl) ⟨eqp_mono _, eqp_mono _, eqp_mono _, eqp_mono _, eqp_mono _, eqp_mono _, eqp_mono _, eqp_mono _, eqp_mono _, eqp_mono _, eqp_mono _, eqp_mono _, eqp_mono _, eqp_mono _, eqp_mono _, eqp_mono _, eqp_mono _, eqp_mono _, eqp_mono _, eqp_mono _, eqp_mono _, eqp_mono _, eqp_mono _, eqp_mono _, eqp_mono _, eqp_mono _, eqp_mono _, eqp_mono _, eqp_mono _, eqp_mono _, eqp_mono _, eqp_mono _, eqp_mono _, trivial⟩
      case hop =>
       refine ⟨?_, ?_⟩
       · rintro - w4 D4
         show OpOK _ _ _ _ _ _ _
         exact ok_pure (ro_move (v := .slice _ _ _) rfl) rfl
       refine ⟨?_, ?_⟩
       · rintro - w5 D5
         show OpOK _ _ _ _ _ _ _
         exact ok_pure (ro_move (v := .int _ _) rfl) rfl
       refine ⟨?_, ?_⟩
       · rintro - w6 D6
         rintro _ rfl _ rfl
         show OpOK _ _ _ _ _ _ _
         exact ok_pure (ro_indexAddrN SegRef_e32 rfl rfl (by omega)) rfl
       refine ⟨?_, ?_⟩
       · rintro - w7 D7
         rintro _ rfl
         show OpOK _ _ _ _ _ _ _
         exact ok_pure (ro_fieldAddr SegRef_f43_0 rfl) rfl
       refine ⟨?_, ?_⟩
       · rintro - w8 D8
         rintro _ rfl
         show OpOK _ _ _ _ _ _ _
         exact ok_pure (ro_load (v := .string (ds.getD i dd).1) SegRef_g9 rfl (cellF (hB.next D8) (hce 0 _ rfl))) rfl
       refine ⟨?_, ?_⟩
       · rintro - w9 D9
         rintro v9_15 rfl
         show OpOK _ _ _ _ _ _ _
         exact ok_pure (ro_bt (ro_eqlS rfl rfl) (size_get.2 (by omega))) rfl
       refine ⟨?_, ?_⟩
       · rintro - w10 D10
         rintro _ rfl
         show OpOK _ _ _ _ _ _ _
         exact ok_pure (ro_move (v := .bool _) rfl) rfl
       refine ⟨?_, ?_⟩
       · rintro - w11 D11
         rintro _ rfl
         show OpOK _ _ _ _ _ _ _
         exact ok_gno rfl rfl rfl
       refine ⟨?_, ?_⟩
       · rintro - w12 D12
         rintro _ rfl
         show OpOK _ _ _ _ _ _ _
         exact ok_gno rfl rfl rfl
       refine ⟨?_, ?_⟩
       · rintro - w13 D13
         rintro _ rfl _ rfl _ rfl
         show OpOK _ _ _ _ _ _ _
         exact ok_gno rfl rfl rfl
       refine ⟨?_, ?_⟩
       · rintro - w14 D14
         rintro _ rfl _ rfl
         show OpOK _ _ _ _ _ _ _
         exact ok_gno rfl rfl rfl
       refine ⟨?_, ?_⟩
       · rintro - w15 D15
         rintro _ rfl _ rfl
         show OpOK _ _ _ _ _ _ _
         exact ok_gno rfl rfl rfl
       refine ⟨?_, ?_⟩
       · rintro - w16 D16
         rintro _ rfl _ rfl
         show OpOK _ _ _ _ _ _ _
         exact ok_gno rfl rfl rfl
       refine ⟨?_, ?_⟩
       · rintro - w17 D17
         rintro _ rfl _ rfl
         show OpOK _ _ _ _ _ _ _
         exact ok_gno rfl rfl rfl
       refine ⟨?_, ?_⟩
       · rintro - w18 D18
         rintro _ rfl _ rfl
         show OpOK _ _ _ _ _ _ _
         exact ok_pure (ro_pickT (v := .bool _) rfl rfl) rfl
       refine ⟨?_, ?_⟩
       · rintro - w19 D19
         rintro _ rfl
         show OpOK _ _ _ _ _ _ _
         exact ok_pure (ro_move (v := .bool _) rfl) rfl
       refine ⟨?_, ?_⟩
       · rintro - w20 D20
         rintro _ rfl
         show OpOK _ _ _ _ _ _ _
         exact ok_gno rfl rfl rfl
       refine ⟨?_, ?_⟩
       · rintro - w21 D21
         rintro _ rfl _ rfl
         show OpOK _ _ _ _ _ _ _
         exact ok_gno rfl rfl rfl
       refine ⟨?_, ?_⟩
       · rintro - w22 D22
         rintro _ rfl _ rfl
         show OpOK _ _ _ _ _ _ _
         exact ok_gno rfl rfl rfl
       refine ⟨?_, ?_⟩
       · rintro - w23 D23
         rintro _ rfl
         show OpOK _ _ _ _ _ _ _
         exact ok_gund rfl rfl
       refine ⟨?_, ?_⟩
       · rintro - w24 D24
         rintro _ rfl
         show OpOK _ _ _ _ _ _ _
         exact ok_gund rfl rfl
       refine ⟨?_, ?_⟩
       · rintro - w25 D25
         rintro _ rfl _ rfl
         show OpOK _ _ _ _ _ _ _
         exact ok_gund rfl rfl
       refine ⟨?_, ?_⟩
       · rintro - w26 D26
         rintro _ rfl _ rfl _ rfl
         show OpOK _ _ _ _ _ _ _
         exact ok_gund rfl rfl
       refine ⟨?_, ?_⟩
       · rintro - w27 D27
         rintro _ rfl _ rfl
         show OpOK _ _ _ _ _ _ _
         exact ok_gund rfl rfl
       refine ⟨?_, ?_⟩
       · rintro - w28 D28
         rintro _ rfl _ rfl
         show OpOK _ _ _ _ _ _ _
         exact ok_gund rfl rfl
       refine ⟨?_, ?_⟩
       · rintro - w29 D29
         rintro _ rfl
         show OpOK _ _ _ _ _ _ _
         exact ok_gund rfl rfl
       refine ⟨?_, ?_⟩
       · rintro - w30 D30
         rintro _ rfl
         show OpOK _ _ _ _ _ _ _
         exact ok_gund rfl rfl
       refine ⟨?_, ?_⟩
       · rintro - w31 D31
         rintro _ rfl _ rfl _ rfl
         show OpOK _ _ _ _ _ _ _
         exact ok_gund rfl rfl
       refine ⟨?_, ?_⟩
       · rintro - w32 D32
         rintro _ rfl _ rfl
         show OpOK _ _ _ _ _ _ _
         exact ok_gund rfl rfl
       refine ⟨?_, ?_⟩
       · rintro - w33 D33
         rintro _ rfl _ rfl
         show OpOK _ _ _ _ _ _ _
         exact ok_gund rfl rfl
       refine ⟨?_, ?_⟩
       · rintro - w34 D34
         rintro _ rfl _ rfl _ rfl
         show OpOK _ _ _ _ _ _ _
         exact ok_gund rfl rfl
       refine ⟨?_, ?_⟩
       · rintro - w35 D35
         rintro _ rfl _ rfl _ rfl
         show OpOK _ _ _ _ _ _ _
         exact ok_gno rfl rfl rfl
       refine ⟨?_, ?_⟩
       · rintro - w36 D36
         rintro _ rfl _ rfl
         show OpOK _ _ _ _ _ _ _
         exact ok_pure (ro_pickT (v := .bool _) rfl rfl) rfl
       exact trivial
      case hend =>
       intro w37 D37
       rintro _ rfl _ rfl _ rfl _ rfl v15 rfl _ rfl _ rfl _ rfl _ rfl _ rfl _ rfl _ rfl _ rfl _ rfl _ rfl _ rfl _ rfl _ rfl _ rfl _ rfl _ rfl _ rfl _ rfl _ rfl _ rfl _ rfl _ rfl _ rfl _ rfl _ rfl _ rfl _ rfl _ rfl
       show St _ _ _ _ _ _ _
       refine st_nil (nx_then ?_)
       refine cd_condT rfl ?_
       refine cd_seq (cd_region ?_)
       refine asi rfl ?_
       refine st_nil (nx_then (cd_ret (rt_block (rt_then (rt_then (rt_block (rt_then ?_)))))))
       refine res1 (v := .int _ _) rfl rfl ?_
       exact ⟨int_eq (by rw [doc_1 (fun h => by
         obtain ⟨x1, x2, x3⟩ := h i (by omega)
         first
           | omega
           | exact hnl (x3 (by omega)))]), (hB.next D37)⟩
    · apply cd_drawnD 33 [(11, eqp _), (12, eqp _), (13, eqp _), (14, eqp _), (15, eqp (.string (ds.getD i dd).1)), (16, eqp _), (17, eqp _), (18, eqp _), (19, eqp _), (20, eqp _), (21, eqp _), (22, eqp (.string (ds.getD i dd).1)), (23, eqp _), (24, eqp _), (25, eqp _), (26, eqp _), (27, eqp _), (28, eqp _), (29, eqp _), (30, eqp _), (31, eqp _), (32, eqp _), (33, eqp _), (34, eqp _), (35, eqp _), (36, eqp _), (37, eqp _), (38, eqp _), (39, eqp _), (40, eqp _), (41, eqp _), (42, eqp _), (43, eqp _)] (by repeat first | exact pq_body | refine pq_then ?_ | refine pq_block ?_) (by kernel_rfl) (by kernel_rfl) ⟨eqp_mono _, eqp_mono _, eqp_mono _, eqp_mono _, eqp_mono _, eqp_mono _, eqp_mono _, eqp_mono _, eqp_mono _, eqp_mono _, eqp_mono _, eqp_mono _, eqp_mono _, eqp_mono _, eqp_mono _, eqp_mono _, eqp_mono _, eqp_mono _, eqp_mono _, eqp_mono _, eqp_mono _, eqp_mono _, eqp_mono _, eqp_mono _, eqp_mono _, eqp_mono _, eqp_mono _, eqp_mono _, eqp_mono _, eqp_mono _, eqp_mono _, eqp_mono _, eqp_mono _, trivial⟩
      case hop =>
       refine ⟨?_, ?_⟩
       · rintro - w39 D39
         show OpOK _ _ _ _ _ _ _
         exact ok_pure (ro_move (v := .slice _ _ _) rfl) rfl
       refine ⟨?_, ?_⟩
       · rintro - w40 D40
         show OpOK _ _ _ _ _ _ _
         exact ok_pure (ro_move (v := .int _ _) rfl) rfl
       refine ⟨?_, ?_⟩
       · rintro - w41 D41
         rintro _ rfl _ rfl
         show OpOK _ _ _ _ _ _ _
         exact ok_pure (ro_indexAddrN SegRef_e32 rfl rfl (by omega)) rfl
       refine ⟨?_, ?_⟩
       · rintro - w42 D42
         rintro _ rfl
         show OpOK _ _ _ _ _ _ _
         exact ok_pure (ro_fieldAddr SegRef_f43_0 rfl) rfl
       refine ⟨?_, ?_⟩
       · rintro - w43 D43
         rintro _ rfl
         show OpOK _ _ _ _ _ _ _
         exact ok_pure (ro_load (v := .string (ds.getD i dd).1) SegRef_g9 rfl (cellF (hB.next D43) (hce 0 _ rfl))) rfl
       refine ⟨?_, ?_⟩
       · rintro - w44 D44
         rintro v44_15 rfl
         show OpOK _ _ _ _ _ _ _
         exact ok_pure (ro_bf (ro_eqlS rfl rfl) (by rw [← Bool.not_eq_true, size_get]; omega)) rfl
       refine ⟨?_, ?_⟩
       · rintro - w45 D45
         rintro _ rfl
         show OpOK _ _ _ _ _ _ _
         exact ok_pure (ro_move (v := .bool _) rfl) rfl
       refine ⟨?_, ?_⟩
       · rintro - w46 D46
         rintro _ rfl
         show OpOK _ _ _ _ _ _ _
         exact ok_gpure rfl (ro_move (v := .slice _ _ _) rfl) rfl
       refine ⟨?_, ?_⟩
       · rintro - w47 D47
         rintro _ rfl
         show OpOK _ _ _ _ _ _ _
         exact ok_gpure rfl (ro_move (v := .int _ _) rfl) rfl
       refine ⟨?_, ?_⟩
       · rintro - w48 D48
         rintro _ rfl _ rfl _ rfl
         show OpOK _ _ _ _ _ _ _
         exact ok_gpure rfl (ro_indexAddrN SegRef_e32 rfl rfl (by omega)) rfl
       refine ⟨?_, ?_⟩
       · rintro - w49 D49
         rintro _ rfl _ rfl
         show OpOK _ _ _ _ _ _ _
         exact ok_gpure rfl (ro_fieldAddr SegRef_f43_0 rfl) rfl
       refine ⟨?_, ?_⟩
       · rintro - w50 D50
         rintro _ rfl _ rfl
         show OpOK _ _ _ _ _ _ _
         exact ok_gpure rfl (ro_load (v := .string (ds.getD i dd).1) SegRef_g9 rfl (cellF (hB.next D50) (hce 0 _ rfl))) rfl
       refine ⟨?_, ?_⟩
       · rintro - w51 D51
         rintro _ rfl v51_22 rfl
         show OpOK _ _ _ _ _ _ _
         exact ok_gpure rfl (ro_lenS (by kernel_rfl) rfl) rfl
       refine ⟨?_, ?_⟩
       · rintro - w52 D52
         rintro _ rfl _ rfl
         show OpOK _ _ _ _ _ _ _
         exact ok_gpure rfl (ro_bt (ro_gtr rfl rfl) (decide_eq_true (by omega))) rfl
       refine ⟨?_, ?_⟩
       · rintro - w53 D53
         rintro _ rfl _ rfl
         show OpOK _ _ _ _ _ _ _
         exact ok_pure (ro_pickF (v := .bool _) rfl rfl) rfl
       refine ⟨?_, ?_⟩
       · rintro - w54 D54
         rintro _ rfl
         show OpOK _ _ _ _ _ _ _
         exact ok_pure (ro_move (v := .bool _) rfl) rfl
       refine ⟨?_, ?_⟩
       · rintro - w55 D55
         rintro _ rfl
         show OpOK _ _ _ _ _ _ _
         exact ok_gno rfl rfl rfl
       refine ⟨?_, ?_⟩
       · rintro - w56 D56
         rintro _ rfl _ rfl
         show OpOK _ _ _ _ _ _ _
         exact ok_gno rfl rfl rfl
       refine ⟨?_, ?_⟩
       · rintro - w57 D57
         rintro _ rfl _ rfl
         show OpOK _ _ _ _ _ _ _
         exact ok_gno rfl rfl rfl
       refine ⟨?_, ?_⟩
       · rintro - w58 D58
         rintro _ rfl
         show OpOK _ _ _ _ _ _ _
         exact ok_gund rfl rfl
       refine ⟨?_, ?_⟩
       · rintro - w59 D59
         rintro _ rfl
         show OpOK _ _ _ _ _ _ _
         exact ok_gund rfl rfl
       refine ⟨?_, ?_⟩
       · rintro - w60 D60
         rintro _ rfl _ rfl
         show OpOK _ _ _ _ _ _ _
         exact ok_gund rfl rfl
       refine ⟨?_, ?_⟩
       · rintro - w61 D61
         rintro _ rfl _ rfl _ rfl
         show OpOK _ _ _ _ _ _ _
         exact ok_gund rfl rfl
       refine ⟨?_, ?_⟩
       · rintro - w62 D62
         rintro _ rfl _ rfl
         show OpOK _ _ _ _ _ _ _
         exact ok_gund rfl rfl
       refine ⟨?_, ?_⟩
       · rintro - w63 D63
         rintro _ rfl _ rfl
         show OpOK _ _ _ _ _ _ _
         exact ok_gund rfl rfl
       refine ⟨?_, ?_⟩
       · rintro - w64 D64
         rintro _ rfl
         show OpOK _ _ _ _ _ _ _
         exact ok_gund rfl rfl
       refine ⟨?_, ?_⟩
       · rintro - w65 D65
         rintro _ rfl
         show OpOK _ _ _ _ _ _ _
         exact ok_gund rfl rfl
       refine ⟨?_, ?_⟩
       · rintro - w66 D66
         rintro _ rfl _ rfl _ rfl
         show OpOK _ _ _ _ _ _ _
         exact ok_gund rfl rfl
       refine ⟨?_, ?_⟩
       · rintro - w67 D67
         rintro _ rfl _ rfl
         show OpOK _ _ _ _ _ _ _
         exact ok_gund rfl rfl
       refine ⟨?_, ?_⟩
       · rintro - w68 D68
         rintro _ rfl _ rfl
         show OpOK _ _ _ _ _ _ _
         exact ok_gund rfl rfl
       refine ⟨?_, ?_⟩
       · rintro - w69 D69
         rintro _ rfl _ rfl _ rfl
         show OpOK _ _ _ _ _ _ _
         exact ok_gund rfl rfl
       refine ⟨?_, ?_⟩
       · rintro - w70 D70
         rintro _ rfl _ rfl _ rfl
         show OpOK _ _ _ _ _ _ _
         exact ok_gno rfl rfl rfl
       refine ⟨?_, ?_⟩
       · rintro - w71 D71
         rintro _ rfl _ rfl
         show OpOK _ _ _ _ _ _ _
         exact ok_pure (ro_pickT (v := .bool _) rfl rfl) rfl
       exact trivial
      case hend =>
       intro w72 D72
       rintro _ rfl _ rfl _ rfl _ rfl v15 rfl _ rfl _ rfl _ rfl _ rfl _ rfl _ rfl v22 rfl _ rfl _ rfl _ rfl _ rfl _ rfl _ rfl _ rfl _ rfl _ rfl _ rfl _ rfl _ rfl _ rfl _ rfl _ rfl _ rfl _ rfl _ rfl _ rfl _ rfl _ rfl
       show St _ _ _ _ _ _ _
       refine st_nil (nx_then ?_)
       refine cd_condT rfl ?_
       refine cd_seq (cd_region ?_)
       refine asi rfl ?_
       refine st_nil (nx_then (cd_ret (rt_block (rt_then (rt_then (rt_block (rt_then ?_)))))))
       refine res1 (v := .int _ _) rfl rfl ?_
       exact ⟨int_eq (by rw [doc_1 (fun h => by
         obtain ⟨x1, x2, x3⟩ := h i (by omega)
         first
           | omega
           | exact hnl (x3 (by omega)))]), (hB.next D72)⟩
    · apply cd_drawnD 33 [(11, eqp _), (12, eqp _), (13, eqp _), (14, eqp _), (15, eqp (.string (ds.getD i dd).1)), (16, eqp _), (17, eqp _), (18, eqp _), (19, eqp _), (20, eqp _), (21, eqp _), (22, eqp (.string (ds.getD i dd).1)), (23, eqp _), (24, eqp _), (25, eqp _), (26, eqp _), (27, eqp _), (28, eqp _), (29, eqp _), (30, eqp _), (31, eqp _), (32, eqp _), (33, eqp _), (34, eqp _), (35, eqp _), (36, eqp _), (37, eqp _), (38, eqp _), (39, eqp _), (40, eqp _), (41, eqp _), (42, eqp _), (43, eqp _)] (by repeat first | exact pq_body | refine pq_then ?_ | refine pq_block ?_) (by kernel_rfl) (by kernel_rfl) ⟨eqp_mono _, eqp_mono _, eqp_mono _, eqp_mono _, eqp_mono _, eqp_mono _, eqp_mono _, eqp_mono _, eqp_mono _, eqp_mono _, eqp_mono _, eqp_mono _, eqp_mono _, eqp_mono _, eqp_mono _, eqp_mono _, eqp_mono _, eqp_mono _, eqp_mono _, eqp_mono _, eqp_mono _, eqp_mono _, eqp_mono _, eqp_mono _, eqp_mono _, eqp_mono _, eqp_mono _, eqp_mono _, eqp_mono _, eqp_mono _, eqp_mono _, eqp_mono _, eqp_mono _, trivial⟩
      case hop =>
       refine ⟨?_, ?_⟩
       · rintro - w74 D74
         show OpOK _ _ _ _ _ _ _
         exact ok_pure (ro_move (v := .slice _ _ _) rfl) rfl
       refine ⟨?_, ?_⟩
       · rintro - w75 D75
         show OpOK _ _ _ _ _ _ _
         exact ok_pure (ro_move (v := .int _ _) rfl) rfl
       refine ⟨?_, ?_⟩
       · rintro - w76 D76
         rintro _ rfl _ rfl
         show OpOK _ _ _ _ _ _ _
         exact ok_pure (ro_indexAddrN SegRef_e32 rfl rfl (by omega)) rfl
       refine ⟨?_, ?_⟩
       · rintro - w77 D77
         rintro _ rfl
         show OpOK _ _ _ _ _ _ _
         exact ok_pure (ro_fieldAddr SegRef_f43_0 rfl) rfl
       refine ⟨?_, ?_⟩
       · rintro - w78 D78
         rintro _ rfl
         show OpOK _ _ _ _ _ _ _
         exact ok_pure (ro_load (v := .string (ds.getD i dd).1) SegRef_g9 rfl (cellF (hB.next D78) (hce 0 _ rfl))) rfl
       refine ⟨?_, ?_⟩
       · rintro - w79 D79
         rintro v79_15 rfl
         show OpOK _ _ _ _ _ _ _
         exact ok_pure (ro_bf (ro_eqlS rfl rfl) (by rw [← Bool.not_eq_true, size_get]; omega)) rfl
       refine ⟨?_, ?_⟩
       · rintro - w80 D80
         rintro _ rfl
         show OpOK _ _ _ _ _ _ _
         exact ok_pure (ro_move (v := .bool _) rfl) rfl
       refine ⟨?_, ?_⟩
       · rintro - w81 D81
         rintro _ rfl
         show OpOK _ _ _ _ _ _ _
         exact ok_gpure rfl (ro_move (v := .slice _ _ _) rfl) rfl
       refine ⟨?_, ?_⟩
       · rintro - w82 D82
         rintro _ rfl
         show OpOK _ _ _ _ _ _ _
         exact ok_gpure rfl (ro_move (v := .int _ _) rfl) rfl
       refine ⟨?_, ?_⟩
       · rintro - w83 D83
         rintro _ rfl _ rfl _ rfl
         show OpOK _ _ _ _ _ _ _
         exact ok_gpure rfl (ro_indexAddrN SegRef_e32 rfl rfl (by omega)) rfl
       refine ⟨?_, ?_⟩
       · rintro - w84 D84
         rintro _ rfl _ rfl
         show OpOK _ _ _ _ _ _ _
         exact ok_gpure rfl (ro_fieldAddr SegRef_f43_0 rfl) rfl
       refine ⟨?_, ?_⟩
       · rintro - w85 D85
         rintro _ rfl _ rfl
         show OpOK _ _ _ _ _ _ _
         exact ok_gpure rfl (ro_load (v := .string (ds.getD i dd).1) SegRef_g9 rfl (cellF (hB.next D85) (hce 0 _ rfl))) rfl
       refine ⟨?_, ?_⟩
       · rintro - w86 D86
         rintro _ rfl v86_22 rfl
         show OpOK _ _ _ _ _ _ _
         exact ok_gpure rfl (ro_lenS (by kernel_rfl) rfl) rfl
       refine ⟨?_, ?_⟩
       · rintro - w87 D87
         rintro _ rfl _ rfl
         show OpOK _ _ _ _ _ _ _
         exact ok_gpure rfl (ro_bf (ro_gtr rfl rfl) (decide_eq_false (by omega))) rfl
       refine ⟨?_, ?_⟩
       · rintro - w88 D88
         rintro _ rfl _ rfl
         show OpOK _ _ _ _ _ _ _
         exact ok_pure (ro_pickF (v := .bool _) rfl rfl) rfl
       refine ⟨?_, ?_⟩
       · rintro - w89 D89
         rintro _ rfl
         show OpOK _ _ _ _ _ _ _
         exact ok_pure (ro_move (v := .bool _) rfl) rfl
       refine ⟨?_, ?_⟩
       · rintro - w90 D90
         rintro _ rfl
         show OpOK _ _ _ _ _ _ _
         exact ok_gpure rfl (ro_move (v := .int _ _) rfl) rfl
       refine ⟨?_, ?_⟩
       · rintro - w91 D91
         rintro _ rfl _ rfl
         show OpOK _ _ _ _ _ _ _
         exact ok_gpure rfl (ro_bf (ro_gtr rfl rfl) (decide_eq_false (by omega))) rfl
       refine ⟨?_, ?_⟩
       · rintro - w92 D92
         rintro _ rfl _ rfl
         show OpOK _ _ _ _ _ _ _
         exact ok_gpure rfl (ro_move (v := .bool _) rfl) rfl
       refine ⟨?_, ?_⟩
       · rintro - w93 D93
         rintro _ rfl
         show OpOK _ _ _ _ _ _ _
         exact ok_gno rfl rfl rfl
       refine ⟨?_, ?_⟩
       · rintro - w94 D94
         rintro _ rfl
         show OpOK _ _ _ _ _ _ _
         exact ok_gno rfl rfl rfl
       refine ⟨?_, ?_⟩
       · rintro - w95 D95
         rintro _ rfl _ rfl
         show OpOK _ _ _ _ _ _ _
         exact ok_gno rfl rfl rfl
       refine ⟨?_, ?_⟩
       · rintro - w96 D96
         rintro _ rfl _ rfl _ rfl
         show OpOK _ _ _ _ _ _ _
         exact ok_gno rfl rfl rfl
       refine ⟨?_, ?_⟩
       · rintro - w97 D97
         rintro _ rfl _ rfl
         show OpOK _ _ _ _ _ _ _
         exact ok_gno rfl rfl rfl
       refine ⟨?_, ?_⟩
       · rintro - w98 D98
         rintro _ rfl _ rfl
         show OpOK _ _ _ _ _ _ _
         exact ok_gno rfl rfl rfl
       refine ⟨?_, ?_⟩
       · rintro - w99 D99
         rintro _ rfl
         show OpOK _ _ _ _ _ _ _
         exact ok_gno rfl rfl rfl
       refine ⟨?_, ?_⟩
       · rintro - w100 D100
         rintro _ rfl
         show OpOK _ _ _ _ _ _ _
         exact ok_gno rfl rfl rfl
       refine ⟨?_, ?_⟩
       · rintro - w101 D101
         rintro _ rfl _ rfl _ rfl
         show OpOK _ _ _ _ _ _ _
         exact ok_gno rfl rfl rfl
       refine ⟨?_, ?_⟩
       · rintro - w102 D102
         rintro _ rfl _ rfl
         show OpOK _ _ _ _ _ _ _
         exact ok_gno rfl rfl rfl
       refine ⟨?_, ?_⟩
       · rintro - w103 D103
         rintro _ rfl _ rfl
         show OpOK _ _ _ _ _ _ _
         exact ok_gno rfl rfl rfl
       refine ⟨?_, ?_⟩
       · rintro - w104 D104
         rintro _ rfl _ rfl _ rfl
         show OpOK _ _ _ _ _ _ _
         exact ok_gno rfl rfl rfl
       refine ⟨?_, ?_⟩
       · rintro - w105 D105
         rintro _ rfl _ rfl _ rfl
         show OpOK _ _ _ _ _ _ _
         exact ok_gpure rfl (ro_pickF (v := .bool _) rfl rfl) rfl
       refine ⟨?_, ?_⟩
       · rintro - w106 D106
         rintro _ rfl _ rfl
         show OpOK _ _ _ _ _ _ _
         exact ok_pure (ro_pickF (v := .bool _) rfl rfl) rfl
       exact trivial
      case hend =>
       intro w107 D107
       rintro _ rfl _ rfl _ rfl _ rfl v15 rfl _ rfl _ rfl _ rfl _ rfl _ rfl _ rfl v22 rfl _ rfl _ rfl _ rfl _ rfl _ rfl _ rfl _ rfl _ rfl _ rfl _ rfl _ rfl _ rfl _ rfl _ rfl _ rfl _ rfl _ rfl _ rfl _ rfl _ rfl _ rfl
       show St _ _ _ _ _ _ _
       refine st_nil (nx_then ?_)
       refine cd_condF rfl ?_
       refine cd_skip (nx_block (nx_then (cd_region ?_)))
       refine mvi rfl ?_
       refine st_val (ro_addN (b := 1) rfl rfl (by omega)) ?_
       refine asi rfl ?_
       refine st_nil ?_
       refine nx_cut (i + 1) ⟨(by first | rfl | (refine int_eq ?_; omega)), trivial⟩ (by (iterate 81 refine agr_cons rfl ?_); exact agr_rfl) ⟨?_, ?_⟩
       · have hoi : okI ds i := by first | exact ⟨by omega, by omega, fun h => absurd h (by omega)⟩ | exact ⟨by omega, by omega, fun _ => hlt⟩
         exact ⟨by omega, fun x hx => by
           rcases Nat.eq_or_lt_of_le (Nat.le_of_lt_succ hx) with e | e
           · subst e; exact hoi
           · exact hok x e, (hB.next D107)⟩
       · show n - (i + 1) < n - i; omega
    apply cd_drawnD 33 [(11, eqp _), (12, eqp _), (13, eqp _), (14, eqp _), (15, eqp (.string (ds.getD i dd).1)), (16, eqp _), (17, eqp _), (18, eqp _), (19, eqp _), (20, eqp _), (21, eqp _), (22, eqp (.string (ds.getD i dd).1)), (23, eqp _), (24, eqp _), (25, eqp _), (26, eqp _), (27, eqp _), (28, eqp _), (29, eqp _), (30, eqp _), (31, eqp _), (32, eqp _), (33, eqp _), (34, eqp _), (35, eqp (.string (ds.getD (i - 1) dd).1)), (36, eqp _), (37, eqp _), (38, eqp _), (39, eqp _), (40, eqp (.string (ds.getD i dd).1)), (41, eqp _), (42, eqp _), (43, eqp _)] (by repeat first | exact pq_body | refine pq_then ?_ | refine pq_block ?_) (by kernel_rfl) (by kernel_rfl) ⟨eqp_mono _, eqp_mono _, eqp_mono _, eqp_mono _, eqp_mono _, eqp_mono _, eqp_mono _, eqp_mono _, eqp_mono _, eqp_mono _, eqp_mono _, eqp_mono _, eqp_mono _, eqp_mono _, eqp_mono _, eqp_mono _, eqp_mono _, eqp_mono _, eqp_mono _, eqp_mono _, eqp_mono _, eqp_mono _, eqp_mono _, eqp_mono _, eqp_mono _, eqp_mono _, eqp_mono _, eqp_mono _, eqp_mono _, eqp_mono _, eqp_mono _, eqp_mono _, eqp_mono _, trivial⟩
    case hop =>
     refine ⟨?_, ?_⟩
     · rintro - w109 D109
       show OpOK _ _ _ _ _ _ _
       exact ok_pure (ro_move (v := .slice _ _ _) rfl) rfl
     refine ⟨?_, ?_⟩
     · rintro - w110 D110
       show OpOK _ _ _ _ _ _ _
       exact ok_pure (ro_move (v := .int _ _) rfl) rfl
     refine ⟨?_, ?_⟩
     · rintro - w111 D111
       rintro _ rfl _ rfl
       show OpOK _ _ _ _ _ _ _
       exact ok_pure (ro_indexAddrN SegRef_e32 rfl rfl (by omega)) rfl
     refine ⟨?_, ?_⟩
     · rintro - w112 D112
       rintro _ rfl
       show OpOK _ _ _ _ _ _ _
       exact ok_pure (ro_fieldAddr SegRef_f43_0 rfl) rfl
     refine ⟨?_, ?_⟩
     · rintro - w113 D113
       rintro _ rfl
       show OpOK _ _ _ _ _ _ _
       exact ok_pure (ro_load (v := .string (ds.getD i dd).1) SegRef_g9 rfl (cellF (hB.next D113) (hce 0 _ rfl))) rfl
     refine ⟨?_, ?_⟩
     · rintro - w114 D114
       rintro v114_15 rfl
       show OpOK _ _ _ _ _ _ _
       exact ok_pure (ro_bf (ro_eqlS rfl rfl) (by rw [← Bool.not_eq_true, size_get]; omega)) rfl
     refine ⟨?_, ?_⟩
     · rintro - w115 D115
       rintro _ rfl
       show OpOK _ _ _ _ _ _ _
       exact ok_pure (ro_move (v := .bool _) rfl) rfl
     refine ⟨?_, ?_⟩
     · rintro - w116 D116
       rintro _ rfl
       show OpOK _ _ _ _ _ _ _
       exact ok_gpure rfl (ro_move (v := .slice _ _ _) rfl) rfl
     refine ⟨?_, ?_⟩
     · rintro - w117 D117
       rintro _ rfl
       show OpOK _ _ _ _ _ _ _
       exact ok_gpure rfl (ro_move (v := .int _ _) rfl) rfl
     refine ⟨?_, ?_⟩
     · rintro - w118 D118
       rintro _ rfl _ rfl _ rfl
       show OpOK _ _ _ _ _ _ _
       exact ok_gpure rfl (ro_indexAddrN SegRef_e32 rfl rfl (by omega)) rfl
     refine ⟨?_, ?_⟩
     · rintro - w119 D119
       rintro _ rfl _ rfl
       show OpOK _ _ _ _ _ _ _
       exact ok_gpure rfl (ro_fieldAddr SegRef_f43_0 rfl) rfl
     refine ⟨?_, ?_⟩
     · rintro - w120 D120
       rintro _ rfl _ rfl
       show OpOK _ _ _ _ _ _ _
       exact ok_gpure rfl (ro_load (v := .string (ds.getD i dd).1) SegRef_g9 rfl (cellF (hB.next D120) (hce 0 _ rfl))) rfl
     refine ⟨?_, ?_⟩
     · rintro - w121 D121
       rintro _ rfl v121_22 rfl
       show OpOK _ _ _ _ _ _ _
       exact ok_gpure rfl (ro_lenS (by kernel_rfl) rfl) rfl
     refine ⟨?_, ?_⟩
     · rintro - w122 D122
       rintro _ rfl _ rfl
       show OpOK _ _ _ _ _ _ _
       exact ok_gpure rfl (ro_bf (ro_gtr rfl rfl) (decide_eq_false (by omega))) rfl
     refine ⟨?_, ?_⟩
     · rintro - w123 D123
       rintro _ rfl _ rfl
       show OpOK _ _ _ _ _ _ _
       exact ok_pure (ro_pickF (v := .bool _) rfl rfl) rfl
     refine ⟨?_, ?_⟩
     · rintro - w124 D124
       rintro _ rfl
       show OpOK _ _ _ _ _ _ _
       exact ok_pure (ro_move (v := .bool _) rfl) rfl
     refine ⟨?_, ?_⟩
     · rintro - w125 D125
       rintro _ rfl
       show OpOK _ _ _ _ _ _ _
       exact ok_gpure rfl (ro_move (v := .int _ _) rfl) rfl
     refine ⟨?_, ?_⟩
     · rintro - w126 D126
       rintro _ rfl _ rfl
       show OpOK _ _ _ _ _ _ _
       exact ok_gpure rfl (ro_bt (ro_gtr rfl rfl) (decide_eq_true (by omega))) rfl
     refine ⟨?_, ?_⟩
     · rintro - w127 D127
       rintro _ rfl _ rfl
       show OpOK _ _ _ _ _ _ _
       exact ok_gpure rfl (ro_move (v := .bool _) rfl) rfl
     refine ⟨?_, ?_⟩
     · rintro - w128 D128
       rintro _ rfl
       show OpOK _ _ _ _ _ _ _
       exact ok_gpure rfl (ro_move (v := .slice _ _ _) rfl) rfl
     refine ⟨?_, ?_⟩
     · rintro - w129 D129
       rintro _ rfl
       show OpOK _ _ _ _ _ _ _
       exact ok_gpure rfl (ro_move (v := .int _ _) rfl) rfl
     refine ⟨?_, ?_⟩
     · rintro - w130 D130
       rintro _ rfl _ rfl
       show OpOK _ _ _ _ _ _ _
       exact ok_gpure rfl (ro_subN (b := 1) rfl rfl (by omega)) rfl
     refine ⟨?_, ?_⟩
     · rintro - w131 D131
       rintro _ rfl _ rfl _ rfl
       show OpOK _ _ _ _ _ _ _
       exact ok_gpure rfl (ro_indexAddrN SegRef_e32 rfl rfl (by omega)) rfl
     refine ⟨?_, ?_⟩
     · rintro - w132 D132
       rintro _ rfl _ rfl
       show OpOK _ _ _ _ _ _ _
       exact ok_gpure rfl (ro_fieldAddr SegRef_f43_0 rfl) rfl
     refine ⟨?_, ?_⟩
     · rintro - w133 D133
       rintro _ rfl _ rfl
       show OpOK _ _ _ _ _ _ _
       exact ok_gpure rfl (ro_load (v := .string (ds.getD (i - 1) dd).1) SegRef_g9 rfl (cellF (hB.next D133) (hcp (by omega) 0 _ rfl))) rfl
     refine ⟨?_, ?_⟩
     · rintro - w134 D134
       rintro _ rfl
       show OpOK _ _ _ _ _ _ _
       exact ok_gpure rfl (ro_move (v := .slice _ _ _) rfl) rfl
     refine ⟨?_, ?_⟩
     · rintro - w135 D135
       rintro _ rfl
       show OpOK _ _ _ _ _ _ _
       exact ok_gpure rfl (ro_move (v := .int _ _) rfl) rfl
     refine ⟨?_, ?_⟩
     · rintro - w136 D136
       rintro _ rfl _ rfl _ rfl
       show OpOK _ _ _ _ _ _ _
       exact ok_gpure rfl (ro_indexAddrN SegRef_e32 rfl rfl (by omega)) rfl
     refine ⟨?_, ?_⟩
     · rintro - w137 D137
       rintro _ rfl _ rfl
       show OpOK _ _ _ _ _ _ _
       exact ok_gpure rfl (ro_fieldAddr SegRef_f43_0 rfl) rfl
     refine ⟨?_, ?_⟩
     · rintro - w138 D138
       rintro _ rfl _ rfl
       show OpOK _ _ _ _ _ _ _
       exact ok_gpure rfl (ro_load (v := .string (ds.getD i dd).1) SegRef_g9 rfl (cellF (hB.next D138) (hce 0 _ rfl))) rfl
     refine ⟨?_, ?_⟩
     · rintro - w139 D139
       rintro _ rfl v139_35 rfl v139_40 rfl
       show OpOK _ _ _ _ _ _ _
       exact ok_gpure rfl (ro_geqS rfl rfl) rfl
     refine ⟨?_, ?_⟩
     · rintro - w140 D140
       rintro _ rfl _ rfl _ rfl
       show OpOK _ _ _ _ _ _ _
       exact ok_gpure rfl (ro_pickT (v := .bool _) rfl rfl) rfl
     refine ⟨?_, ?_⟩
     · rintro - w141 D141
       rintro _ rfl _ rfl
       show OpOK _ _ _ _ _ _ _
       exact ok_pure (ro_pickF (v := .bool _) rfl rfl) rfl
     exact trivial
    case hend =>
     intro w142 D142
     rintro _ rfl _ rfl _ rfl _ rfl v15 rfl _ rfl _ rfl _ rfl _ rfl _ rfl _ rfl v22 rfl _ rfl _ rfl _ rfl _ rfl _ rfl _ rfl _ rfl _ rfl _ rfl _ rfl _ rfl _ rfl v35 rfl _ rfl _ rfl _ rfl _ rfl v40 rfl _ rfl _ rfl _ rfl
     show St _ _ _ _ _ _ _
     refine st_nil (nx_then ?_)
     refine cd_cond rfl (fun Q143 => ?_) (fun Q143 => ?_)
     · with_reducible replace Q143 := bn_t Q143
       have hnl : ¬ sLt (ds.getD (i - 1) dd).1 (ds.getD i dd).1 := fun h => by
         have h9 := (sLt_dec _ _).2 h
         simp_all
       refine cd_seq (cd_region ?_)
       refine asi rfl ?_
       refine st_nil (nx_then (cd_ret (rt_block (rt_then (rt_then (rt_block (rt_then ?_)))))))
       refine res1 (v := .int _ _) rfl rfl ?_
       exact ⟨int_eq (by rw [doc_1 (fun h => by
         obtain ⟨x1, x2, x3⟩ := h i (by omega)
         first
           | omega
           | exact hnl (x3 (by omega)))]), (hB.next D142)⟩
     with_reducible replace Q143 := bn_f Q143
     have hlt : sLt (ds.getD (i - 1) dd).1 (ds.getD i dd).1 := (sLt_dec _ _).1 (by simpa using Q143)
     refine cd_skip (nx_block (nx_then (cd_region ?_)))
     refine mvi rfl ?_
     refine st_val (ro_addN (b := 1) rfl rfl (by omega)) ?_
     refine asi rfl ?_
     refine st_nil ?_
     refine nx_cut (i + 1) ⟨(by first | rfl | (refine int_eq ?_; omega)), trivial⟩ (by (iterate 81 refine agr_cons rfl ?_); exact agr_rfl) ⟨?_, ?_⟩
     · have hoi : okI ds i := by first | exact ⟨by omega, by omega, fun h => absurd h (by omega)⟩ | exact ⟨by omega, by omega, fun _ => hlt⟩
       exact ⟨by omega, fun x hx => by
         rcases Nat.eq_or_lt_of_le (Nat.le_of_lt_succ hx) with e | e
         · subst e; exact hoi
         · exact hok x e, (hB.next D142)⟩
     · show n - (i + 1) < n - i; omega
  with_reducible replace Q2 := of_decide_eq_false Q2
  have hord : DOrd ds := fun x hx => hok x (by omega)
  refine cd_exit ?_
  refine ex_then (ex_then (ex_block (nx_then (cd_seq (cd_seq (cd_region ?_))))))
  refine mvs rfl ?_
  refine st_val (ro_len SegRef_l32 rfl) ?_
  refine st_val (ro_gtr rfl rfl) ?_
  refine st_nil (nx_then ?_)
  refine cd_cond rfl (fun Q144 => ?_) (fun Q144 => ?_)
  · with_reducible replace Q144 := of_decide_eq_true Q144
    refine cd_seq (cd_region ?_)
    refine asi rfl ?_
    refine st_nil (nx_then (cd_ret (rt_then ?_)))
    refine res1 (v := .int _ _) rfl rfl ?_
    exact ⟨int_eq (by rw [doc_2 hord (fun h => by have := h.1; omega)]), hB⟩
  with_reducible replace Q144 := of_decide_eq_false Q144
  refine cd_skip (nx_then (cd_seq (cd_seq (cd_region ?_))))
  refine asi rfl ?_
  refine st_nil (nx_then (cd_block ?_))
  refine cd_loop (G := Nat) [2, 47, 48, 49, 50, 51, 52, 53, 54, 55, 56, 57, 58, 59] (fun i => [(4, .int .i64 (i : Nat))]) (fun i w' => i ≤ n ∧ (∀ x, x < i → (ds.getD x dd).2.size ≤ 2048) ∧ From w w') (fun i => n - i) (0) ⟨rfl, trivial⟩ ?_ ?_
  · exact ⟨Nat.zero_le _, fun x h => absurd h (by omega), hB⟩
  rintro i ρ145 w145 ⟨hi, hok2, hB⟩
  refine cd_seq (cd_seq (cd_region ?_))
  refine mvi rfl ?_
  refine mvs rfl ?_
  refine st_val (ro_len SegRef_l32 rfl) ?_
  refine st_val (ro_lss rfl rfl) ?_
  refine st_nil (nx_then ?_)
  refine cd_cond rfl (fun Q146 => ?_) (fun Q146 => ?_)
  · with_reducible replace Q146 := of_decide_eq_true Q146
    obtain ⟨bd, od, rfl, hcd⟩ := hr (by omega)
    have hil : i < ds.length := by omega
    have hce := hcd i hil
    rw [← getD_get hil] at hce
    refine cd_skip (nx_then (cd_seq (cd_block (cd_seq (cd_region ?_)))))
    refine mvs rfl ?_
    refine mvi rfl ?_
    refine st_val (ro_indexAddrN SegRef_e32 rfl rfl (by omega)) ?_
    refine st_val (ro_fieldAddr SegRef_f43_1 rfl) ?_
    refine st_val (ro_load SegRef_g9 rfl (by exact cellF hB (hce 1 _ rfl))) ?_
    refine st_val (ro_lenS (by kernel_rfl) rfl) ?_
    refine st_val (ro_gtr rfl rfl) ?_
    refine st_nil (nx_then ?_)
    refine cd_cond rfl (fun Q147 => ?_) (fun Q147 => ?_)
    · with_reducible replace Q147 := of_decide_eq_true Q147
      refine cd_seq (cd_region ?_)
      refine asi rfl ?_
      refine st_nil (nx_then (cd_ret (rt_block (rt_then (rt_then (rt_block (rt_then ?_)))))))
      refine res1 (v := .int _ _) rfl rfl ?_
      exact ⟨int_eq (by rw [doc_2 hord (fun h => by have := h.2.1 (ds.getD i dd) (by rw [getD_get (show i < ds.length by omega)]; exact List.getElem_mem _); omega)]), hB⟩
    with_reducible replace Q147 := of_decide_eq_false Q147
    refine cd_skip (nx_block (nx_then (cd_region ?_)))
    refine mvi rfl ?_
    refine st_val (ro_addN (b := 1) rfl rfl (by omega)) ?_
    refine asi rfl ?_
    refine st_nil ?_
    refine nx_cut (i + 1) ⟨(by first | rfl | (refine int_eq ?_; omega)), trivial⟩ (by (iterate 29 refine agr_cons rfl ?_); exact agr_rfl) ⟨?_, ?_⟩
    · exact ⟨by omega, fun x hx => by
        rcases Nat.eq_or_lt_of_le (Nat.le_of_lt_succ hx) with e | e
        · subst e; omega
        · exact hok2 x e, hB⟩
    · show n - (i + 1) < n - i; omega
  with_reducible replace Q146 := of_decide_eq_false Q146
  have hall : ∀ d ∈ ds, d.2.size ≤ 2048 := fun d hd => by
    obtain ⟨x, hx, rfl⟩ := List.getElem_of_mem hd
    have := hok2 x (by omega)
    rwa [getD_get hx] at this
  have hdm := dsz_many hall
  refine cd_exit ?_
  refine ex_then (ex_then (ex_block (nx_then (cd_seq (cd_seq (cd_region ?_))))))
  refine mvs rfl ?_
  refine st_call SegRef_k16 (refSize_rt A c n ds _ (hr.from_ hB) hn hl (by omega)) ?_
  rintro v61 w148 ⟨rfl, E61⟩
  refine st_val (ro_gtr rfl rfl) ?_
  refine st_nil (nx_then ?_)
  refine cd_cond rfl (fun Q149 => ?_) (fun Q149 => ?_)
  · with_reducible replace Q149 := of_decide_eq_true Q149
    refine cd_seq (cd_region ?_)
    refine asi rfl ?_
    refine st_nil (nx_then (cd_ret (rt_then ?_)))
    refine res1 (v := .int _ _) rfl rfl ?_
    exact ⟨int_eq (by rw [doc_2 hord (fun h => by have := h.2.2; omega)]), (hB.next E61)⟩
  with_reducible replace Q149 := of_decide_eq_false Q149
  refine cd_skip (nx_then (cd_seq (cd_region ?_)))
  refine asi rfl ?_
  refine st_nil (nx_then (cd_ret ?_))
  refine res1 (v := .int _ _) rfl rfl ?_
  exact ⟨int_eq (by rw [doc_0 hord ⟨by omega, hall, by omega⟩]), (hB.next E61)⟩
def askP (p : ByteArray) (limit : Int) : Int := if p.size = 0 then 5 else if 4096 < p.size ∨ limit < 1 ∨ 1000 < limit then 2 else 0
end Go.Proofs.YtglndihdhaaccaaDoor

namespace Go.Proofs.YtglndihdhaaccaaDoor
open Go.RowKit
open Go.ChangeShapes Go.WideShapes Go.ChangeAt
open Go.Proofs.YtglndihdhaaccaaDoor.SA
theorem ScLaw_q32 : litQ Tryd.prog 32 = some (43, 2, 32, (.agg #[.string ⟨#[]⟩, .string ⟨#[]⟩])) := by kernel_rfl
theorem ScLaw_e23 : elemQ Tryd.prog 23 = some (5, 1) := by kernel_rfl
theorem ScLaw_l23 : (elemQ Tryd.prog 23).isSome = true := by kernel_rfl
theorem ScLaw_g5 : aggQ Tryd.prog 5 = some false := by kernel_rfl
theorem ScLaw_q23 : litQ Tryd.prog 23 = some (5, 1, 1, (.int .u8 0)) := by kernel_rfl
theorem ScLaw_b43_0cstring97_1cstring120 : Tryd.prog.built 43 [(0, .string ⟨#[97]⟩), (1, .string ⟨#[120]⟩)] = some #[.string ⟨#[97]⟩, .string ⟨#[120]⟩] := by kernel_rfl
theorem ScLaw_k15 : callable Tryd.prog 15 = true := by kernel_rfl
theorem ScLaw_k10 : callable Tryd.prog 10 = true := by kernel_rfl
theorem ScLaw_k5 : callable Tryd.prog 5 = true := by kernel_rfl
theorem ScLaw_k7 : callable Tryd.prog 7 = true := by kernel_rfl
theorem ScLaw_k9 : callable Tryd.prog 9 = true := by kernel_rfl
theorem ScLaw_k19 : callable Tryd.prog 19 = true := by kernel_rfl
theorem ScLaw_l22 : (elemQ Tryd.prog 22).isSome = true := by kernel_rfl
theorem ScLaw_e22 : elemQ Tryd.prog 22 = some (23, 1) := by kernel_rfl
theorem ScLaw_g23 : aggQ Tryd.prog 23 = some false := by kernel_rfl
theorem ScLaw_k4 : callable Tryd.prog 4 = true := by kernel_rfl
theorem ScLaw_k6 : callable Tryd.prog 6 = true := by kernel_rfl
theorem ScLaw_k8 : callable Tryd.prog 8 = true := by kernel_rfl
theorem ScLaw_k11 : callable Tryd.prog 11 = true := by kernel_rfl
set_option maxHeartbeats 400000 in
theorem copyBytes_any (A : Option Addr) (c : Nat) (l : List Nat) (w : World) (hr : RowOf bV w A l) (hl : l.length * 1 ≤ 140737488351232) :
    Rt Tryd.prog 4 [.slice A l.length c] w (fun v w' => ∃ A' c', v = .slice A' l.length c' ∧ w'.ownsRow w.heap.size 5 1 v l.length (l.map bV) ∧ From w w') := by
  refine enter (n := 19) Tryd.func4 rfl rfl rfl ?_
  refine cd_seq (cd_region ?_)
  refine ass rfl ?_
  refine st_nil (nx_then (cd_seq (cd_region ?_)))
  refine ass rfl ?_
  refine st_nil (nx_then (cd_seq (cd_seq (cd_region ?_))))
  refine asi rfl ?_
  refine st_nil (nx_then (cd_block ?_))
  refine cd_loop (G := Nat × Option Addr × Nat) [5, 6, 7, 8, 9, 10, 11, 12, 13, 14, 15, 16, 17] (fun g => [(3, .slice g.2.1 g.1 g.2.2), (4, .int .i64 (g.1 : Nat))]) (fun g w' => g.1 ≤ l.length ∧ w'.ownsRow w.heap.size 5 1 (.slice g.2.1 g.1 g.2.2) g.1 ((l.take g.1).map bV) ∧ From w w') (fun g => l.length - g.1) ((0, none, 0)) ⟨rfl, rfl, trivial⟩ ?_ ?_
  · exact ⟨Nat.zero_le _, World.ownsRow_nil _ _ _ _, From.rfl_⟩
  rintro ⟨k, A3, c3⟩ ρ1 w1 ⟨hk, ho, hB⟩
  simp only at hk ho
  refine cd_seq (cd_seq (cd_region ?_))
  refine mvi rfl ?_
  refine mvs rfl ?_
  refine st_val (ro_len ScLaw_l23 rfl) ?_
  refine st_val (ro_lss rfl rfl) ?_
  refine st_nil (nx_then ?_)
  refine cd_cond rfl (fun Q2 => ?_) (fun Q2 => ?_)
  · replace Q2 := of_decide_eq_true Q2
    obtain ⟨ba, oa, rfl, ca⟩ := hr (by omega)
    refine cd_skip (nx_then (cd_seq (cd_block (cd_region ?_))))
    refine mvs rfl ?_
    refine mvs rfl ?_
    refine mvi rfl ?_
    refine st_val (ro_indexAddr1 ScLaw_e23 rfl rfl (by omega)) ?_
    refine st_val (ro_load ScLaw_g5 rfl (by first | (exact cellF hB (ca k (by omega))))) ?_
    refine st_lit1 (v := .int _ _) ScLaw_q23 rfl rfl rfl ?_
    intro b16 w3 E16 hb16 hk16
    refine st_push1 (a0 := w) ScLaw_q23 rfl rfl (ho.kept_from E16) (hB.next E16) rfl hk16 rfl (by omega) (by omega) ?_
    intro A17 c17 w4 ho17 B17 hg17
    refine ass rfl ?_
    refine st_nil (nx_block (nx_then (cd_region ?_)))
    refine mvi rfl ?_
    refine st_val (ro_add64 rfl rfl (by omega)) ?_
    refine asi rfl ?_
    refine st_nil ?_
    refine nx_cut ((k + 1, A17, c17)) ⟨(by first | rfl | (refine int_eq ?_; omega)), (by first | rfl | (refine int_eq ?_; omega)), trivial⟩ (by (iterate 30 refine agr_cons rfl ?_); exact agr_rfl) ⟨?_, ?_⟩
    · exact ⟨by simp only; omega, by rw [map_take_succ bV (by omega)]; exact ho17, B17⟩
    · simp only; omega
  replace Q2 := of_decide_eq_false Q2
  refine cd_exit ?_
  refine ex_then (ex_then (ex_block (nx_then (cd_seq (cd_region ?_)))))
  refine mvs rfl ?_
  refine ass rfl ?_
  refine st_nil (nx_then (cd_ret ?_))
  refine res1 (v := .slice _ _ _) rfl rfl ?_
  obtain rfl : k = l.length := by omega
  exact ⟨A3, c3, rfl, by rwa [List.take_length] at ho, hB⟩
set_option maxHeartbeats 400000 in
theorem eqBytes_any (A B : Option Addr) (ca cb : Nat) (a b : List Nat) (w : World) (ha : RowOf bV w A a) (hb : RowOf bV w B b) (hla : a.length * 1 ≤ 140737488351232) :
    Rt Tryd.prog 6 [.slice A a.length ca, .slice B b.length cb] w (fun v w' => v = .bool (decide (a = b)) ∧ From w w') := by
  refine enter (n := 26) Tryd.func6 rfl rfl rfl ?_
  refine cd_seq (cd_region ?_)
  refine asb rfl ?_
  refine st_nil (nx_then (cd_seq (cd_seq (cd_region ?_))))
  refine mvs rfl ?_
  refine st_val (ro_len ScLaw_l23 rfl) ?_
  refine mvs rfl ?_
  refine st_val (ro_len ScLaw_l23 rfl) ?_
  refine st_val (ro_neq rfl rfl) ?_
  refine st_nil (nx_then ?_)
  refine cd_cond rfl (fun Q1 => ?_) (fun Q1 => ?_)
  · replace Q1 := bn_t Q1; replace Q1 := be_f Q1
    refine cd_seq (cd_region ?_)
    refine asb rfl ?_
    refine st_nil (nx_then (cd_ret (rt_then ?_)))
    refine res1 (v := .bool _) rfl rfl ?_
    exact ⟨by rw [decide_eq_false]; rintro rfl; omega, From.rfl_⟩
  replace Q1 := bn_f Q1; replace Q1 := be_t Q1
  refine cd_skip (nx_then (cd_seq (cd_seq (cd_region ?_))))
  refine asi rfl ?_
  refine st_nil (nx_then (cd_block ?_))
  refine cd_loop (G := Nat) [4, 11, 12, 13, 14, 15, 16, 17, 18, 19, 20, 21, 22, 23, 24, 25] (fun k => [(5, .int .i64 (k : Nat))]) (fun k w' => k ≤ a.length ∧ a.take k = b.take k ∧ From w w') (fun k => a.length - k) (0) ⟨rfl, trivial⟩ ?_ ?_
  · exact ⟨Nat.zero_le _, rfl, From.rfl_⟩
  rintro k ρ2 w2 ⟨hk, ht, hB⟩
  refine cd_seq (cd_seq (cd_region ?_))
  refine mvi rfl ?_
  refine mvs rfl ?_
  refine st_val (ro_len ScLaw_l23 rfl) ?_
  refine st_val (ro_lss rfl rfl) ?_
  refine st_nil (nx_then ?_)
  refine cd_cond rfl (fun Q3 => ?_) (fun Q3 => ?_)
  · replace Q3 := of_decide_eq_true Q3
    obtain ⟨ba, oa, rfl, ca⟩ := ha (by omega)
    obtain ⟨bb, ob, rfl, cb⟩ := hb (by omega)
    refine cd_skip (nx_then (cd_seq (cd_block (cd_seq ?_))))
    apply cd_drawn 9 [(17, eqp _), (18, eqp _), (19, eqp _), (20, eqp _), (21, eqp _), (22, eqp _), (23, eqp _), (24, eqp _), (25, eqp _)] (by kernel_rfl) (by kernel_rfl) ⟨eqp_mono _, eqp_mono _, eqp_mono _, eqp_mono _, eqp_mono _, eqp_mono _, eqp_mono _, eqp_mono _, eqp_mono _, trivial⟩
    case hop =>
     refine ⟨?_, ?_⟩
     · intro w5 D5
       show OpOK _ _ _ _ _ _ _
       exact ok_pure (ro_move (v := .slice _ _ _) rfl) rfl
     refine ⟨?_, ?_⟩
     · intro w6 D6
       show OpOK _ _ _ _ _ _ _
       exact ok_pure (ro_move (v := .int _ _) rfl) rfl
     refine ⟨?_, ?_⟩
     · intro w7 D7
       rintro _ rfl _ rfl
       show OpOK _ _ _ _ _ _ _
       exact ok_pure (ro_indexAddr1 ScLaw_e23 rfl rfl (by omega)) rfl
     refine ⟨?_, ?_⟩
     · intro w8 D8
       rintro _ rfl
       show OpOK _ _ _ _ _ _ _
       exact ok_pure (ro_load ScLaw_g5 rfl (by first | (exact cellF (hB.next D8) (ca k (by omega))) | (exact cellF (hB.next D8) (cb k (by omega))))) rfl
     refine ⟨?_, ?_⟩
     · intro w9 D9
       show OpOK _ _ _ _ _ _ _
       exact ok_pure (ro_move (v := .slice _ _ _) rfl) rfl
     refine ⟨?_, ?_⟩
     · intro w10 D10
       show OpOK _ _ _ _ _ _ _
       exact ok_pure (ro_move (v := .int _ _) rfl) rfl
     refine ⟨?_, ?_⟩
     · intro w11 D11
       rintro _ rfl _ rfl
       show OpOK _ _ _ _ _ _ _
       exact ok_pure (ro_indexAddr1 ScLaw_e23 rfl rfl (by omega)) rfl
     refine ⟨?_, ?_⟩
     · intro w12 D12
       rintro _ rfl
       show OpOK _ _ _ _ _ _ _
       exact ok_pure (ro_load ScLaw_g5 rfl (by first | (exact cellF (hB.next D12) (ca k (by omega))) | (exact cellF (hB.next D12) (cb k (by omega))))) rfl
     refine ⟨?_, ?_⟩
     · intro w13 D13
       rintro _ rfl _ rfl
       show OpOK _ _ _ _ _ _ _
       exact ok_pure (ro_neq rfl rfl) rfl
     exact trivial
    case hend =>
     intro w14 D14
     rintro _ rfl _ rfl _ rfl _ rfl _ rfl _ rfl _ rfl _ rfl _ rfl
     show St _ _ _ _ _ _ _
     refine st_nil (nx_then ?_)
     refine cd_cond rfl (fun Q15 => ?_) (fun Q15 => ?_)
     · replace Q15 := bn_t Q15; replace Q15 := be_f Q15
       refine cd_seq (cd_region ?_)
       refine asb rfl ?_
       refine st_nil (nx_then (cd_ret (rt_block (rt_then (rt_then (rt_block (rt_then ?_)))))))
       refine res1 (v := .bool _) rfl rfl ?_
       exact ⟨by rw [decide_eq_false]; rintro rfl; exact absurd rfl (by assumption), (hB.next D14)⟩
     replace Q15 := bn_f Q15; replace Q15 := be_t Q15
     refine cd_skip (nx_block (nx_then (cd_region ?_)))
     refine mvi rfl ?_
     refine st_val (ro_add64 rfl rfl (by omega)) ?_
     refine asi rfl ?_
     refine st_nil ?_
     refine nx_cut (k + 1) ⟨(by first | rfl | (refine int_eq ?_; omega)), trivial⟩ (by (iterate 33 refine agr_cons rfl ?_); exact agr_rfl) ⟨?_, ?_⟩
     · exact ⟨by omega, take_eq (by omega) (by omega) ht (by omega), (hB.next D14)⟩
     · omega
  replace Q3 := of_decide_eq_false Q3
  refine cd_exit ?_
  refine ex_then (ex_then (ex_block (nx_then (cd_seq (cd_region ?_)))))
  refine asb rfl ?_
  refine st_nil (nx_then (cd_ret ?_))
  refine res1 (v := .bool _) rfl rfl ?_
  exact ⟨by rw [decide_eq_true (eq_ge (by omega) (by omega) ht)], hB⟩
set_option maxHeartbeats 400000 in
theorem num_any (e : Int) (w : World) :
    Rt Tryd.prog 7 [.int .i64 e] w (fun v w' => v = .int .i64 e ∧ w = w') := by
  refine enter (n := 4) Tryd.func7 rfl rfl rfl ?_
  refine cd_seq (cd_region ?_)
  refine asi rfl ?_
  refine st_nil (nx_then (cd_seq (cd_region ?_)))
  refine mvi rfl ?_
  refine asi rfl ?_
  refine st_nil (nx_then (cd_ret ?_))
  refine res1 (v := .int _ _) rfl rfl ?_
  exact ⟨rfl, rfl⟩
theorem table_of {W : World} (h : laidMetH Tryd.prog Rows.segcodeAnyRow.laid W) : Table W := by
  have gTab : Tryd.prog.globalNamed "lectern/sum.remainders" = some 0 := by kernel_rfl
  have gType : (Tryd.prog.globals[0]?).map (·.type) = some 103 := by kernel_rfl
  have c1 : Tryd.prog.cellsOf 68 = 1 := by kernel_rfl
  have c16 : Tryd.prog.cellsOf 103 = 16 := by kernel_rfl
  have ht : Lib.TabIs Tryd.prog W "lectern/sum.remainders" .u32 [0, 498536548, 997073096, 651767980, 1994146192, 1802195444, 1303535960, 1342533948, 3988292384, 4027552580, 3604390888, 3412177804, 2607071920, 2262029012, 2685067896, 3183342108] :=
    Lib.tabIs_of_head (rest := []) gTab gType Tryd.underlying103 Tryd.underlying68 c1 c16 h
  intro i hi
  rw [ht.cell gTab i hi]
  have : i = 0 ∨ i = 1 ∨ i = 2 ∨ i = 3 ∨ i = 4 ∨ i = 5 ∨ i = 6 ∨ i = 7 ∨ i = 8 ∨ i = 9 ∨ i = 10 ∨ i = 11 ∨ i = 12 ∨ i = 13 ∨ i = 14 ∨ i = 15 := by omega
  rcases this with rfl | rfl | rfl | rfl | rfl | rfl | rfl | rfl | rfl | rfl | rfl | rfl | rfl | rfl | rfl | rfl <;> rfl
theorem walk_laid_sl {H : Type} {enc : TypeId × Value → H} {F : FuncId} {T : TypeId} (t : Ty) (hf : (Ty.sl t).fits Tryd.prog (.inl T) = true) (laid : List (String × DataW Unit)) (hl : ∀ W, laidMetH Tryd.prog laid W → Table W)
    (h : ∀ (A : Option Addr) (c : Nat) (xs : List t.den) (w : World), xs.length * t.bytes ≤ 140737488351232 → (0 < xs.length → ∃ b o, A = some ⟨b, o, none⟩ ∧ ∀ (i : Nat) (hi : i < xs.length), t.At w (fun j => w.cell? ⟨b, o + i * t.size + j, none⟩) xs[i]) → Table w →
      Rt Tryd.prog F [.slice A xs.length c] w fun v w' => v = .bool true ∧ From w w')
    (W : World) (base : Nat) (v : Value) (d : DataW H) (p : List MemPlace) (hL : laidMetH Tryd.prog laid W) (_ : W.ShapedOpen Tryd.prog) (hok : Value.okWide Tryd.prog W .any base T v) (ht : DataW.Trod enc Tryd.prog W 0 (fun _ => true) true T v d p) (hsz : ∀ n ∈ d.weights Tryd.prog T, n ≤ 140737488351232) :
    Calls Tryd.prog F #[v] W fun e W' => e = .returned (.bool true) ∧ From W W' := by
  obtain ⟨A, cap, xs, rfl, hb, _, he⟩ := arg_sl t hf hok ht hsz
  refine Rt.to (h A cap xs W hb (fun h0 => ?_) (hl W hL))
  obtain ⟨b, o, hA, _, hi⟩ := he h0
  exact ⟨b, o, hA, fun i h => hi i _ (List.getElem?_eq_getElem h)⟩
theorem eq_same (A B : Option Addr) (ca cb n : Nat) (l : List Nat) (w : World) (hn : n = l.length) (ha : RowOf bV w A l) (hb : RowOf bV w B l) (hl : l.length ≤ 140737488351232) : Rt Tryd.prog 6 [.slice A n ca, .slice B l.length cb] w fun v w' => v = .bool true ∧ From w w' := by
  subst hn
  refine (eqBytes_any A B ca cb l l w ha hb (by omega)).mono fun v w' h => ⟨?_, h.2⟩
  rw [h.1, decide_eq_true rfl]
theorem eqDocs_same (A B : Option Addr) (ca cb n m : Nat) (a : List Dc) (w : World) (ha : RowK 2 dV w A a) (hb : RowK 2 dV w B a) (hn : n = a.length) (hm : m = a.length) (hl : n ≤ 100000000) : Rt Tryd.prog 19 [.slice A n ca, .slice B m cb] w fun v w' => v = .bool true ∧ From w w' :=
  (eqDocs_rt A B ca cb n m a a w ha hb hn hm hl).mono fun v w' h => ⟨h.1.trans (congrArg Value.bool (decide_eq_true rfl)), h.2⟩
theorem docs_zero (A : Option Addr) (c n : Nat) (ds : List Dc) (w : World) (hr : RowK 2 dV w A ds) (hn : n = ds.length) (hl : n ≤ 100000000) (h : docE ds = 0) : Rt Tryd.prog 8 [.slice A n c] w fun v w' => v = .int .i64 0 ∧ From w w' :=
  (refDocs_rt A c n ds w hr hn hl).mono fun v w' k => ⟨by rw [k.1, h], k.2⟩
theorem encD_ok {ds : List Dc} (h : docE ds = 0) : (encD ds).length ≤ 1000000 ∧ ∀ b ∈ encD ds, b < 256 := by
  obtain ⟨hO, hF⟩ := doc_zero h
  obtain ⟨k1, k2, k3⟩ := ok_fS hO hF
  refine ⟨by rw [encD_len]; omega, fun b hb => ?_⟩
  unfold encD at hb
  rcases List.mem_append.1 hb with hb | hb
  · exact putB_byte (by omega) (fun s hs => by have := k2 s hs; omega) b hb
  · exact ck_byte _ b hb
theorem isD_uniq {l : List Nat} {a b : List Dc} (h : IsD l a) (k : IsD l b) : a = b := by
  have e : fS a = fS b := Option.some.inj ((isD_get h).symm.trans (isD_get k))
  rw [← uS_fS a, e, uS_fS]
theorem enc_m (base s : Nat) (ds : List Dc) (L : Nat) (w : World) (hs : SegAt w base s ds) (hL : (encD ds).length = L) (hT : Table w) :
    Rt Tryd.prog 10 [.pointer (some ⟨s, 0, none⟩)] w fun v w' => (∃ A c, v = .tuple #[.slice A L c, .int .i64 0] ∧ RowC w' (.slice A L c) (bytesV (encD ds))) ∧ From w w' := by
  subst hL
  exact (encode_rt base s ds w hs hT).mono fun v w' ⟨⟨A, c, hv, ho⟩, hF⟩ => ⟨⟨A, c, hv, RowC.of_own ho⟩, hF⟩
theorem enc_l (base s : Nat) (l : List Nat) (ds : List Dc) (w : World) (hs : SegAt w base s ds) (hg : IsD l ds) (hT : Table w) :
    Rt Tryd.prog 10 [.pointer (some ⟨s, 0, none⟩)] w fun v w' => (∃ A c, v = .tuple #[.slice A l.length c, .int .i64 0] ∧ RowOf bV w' A l) ∧ From w w' := by
  refine (encode_rt base s ds w hs hT).mono fun v w' ⟨⟨A, c, hv, ho⟩, hF⟩ => ?_
  rw [← hg.2] at hv ho
  exact ⟨⟨A, c, hv, (RowOf.of_row (f := bV) (RowC.of_own ho).1).2⟩, hF⟩
theorem dec_m (ds : List Dc) (A : Option Addr) (c L : Nat) (w : World) (h0 : docE ds = 0) (hL : (encD ds).length = L) (hr : RowC w (.slice A L c) (bytesV (encD ds))) (hT : Table w) :
    Rt Tryd.prog 5 [.slice A L c] w fun v w' => (∃ s, v = .tuple #[.pointer (some ⟨s, 0, none⟩), .int .i64 0] ∧ SegAt w' w.heap.size s ds) ∧ From w w' := by
  obtain ⟨k1, k2⟩ := encD_ok h0
  refine (decode_rt A c L (encD ds) w hL.symm hr k2 k1 hT).mono fun v w' ⟨h, hF⟩ => ⟨?_, hF⟩
  rcases h with ⟨ds2, s, hg, hv, hs⟩ | ⟨hno, _⟩
  · obtain rfl := isD_uniq hg ⟨h0, rfl⟩
    exact ⟨s, hv, hs⟩
  · exact absurd ⟨h0, rfl⟩ (hno ds)
theorem doc_ax1 : docE [(⟨#[97]⟩, ⟨#[120]⟩)] = 0 := doc_0 (fun i hi => by
  have : i < 1 := hi
  obtain rfl : i = 0 := by omega
  exact ⟨by decide, by decide, fun h => absurd h (by omega)⟩) ⟨by decide, fun d hd => by rw [List.mem_singleton] at hd; subst hd; decide, by decide⟩
theorem rowD1 {w : World} {g : Nat} {a b : ByteArray} (h : Blk w g 43 #[.string a, .string b]) : RowK 2 dV w (some ⟨g, 0, none⟩) [(a, b)] := fun _ => ⟨g, 0, rfl, fun i hi => by
  match i, hi with
  | 0, _ => exact h.whole⟩
theorem new_ax1 (g : Nat) (w : World) (h : Blk w g 43 #[.string ⟨#[97]⟩, .string ⟨#[120]⟩]) : Rt Tryd.prog 15 [.slice (some ⟨g, 0, none⟩) 1 1] w fun v w' => (∃ s, v = .tuple #[.pointer (some ⟨s, 0, none⟩), .int .i64 0] ∧ SegAt w' w.heap.size s [(⟨#[97]⟩, ⟨#[120]⟩)]) ∧ From w w' := by
  refine (new_s (some ⟨g, 0, none⟩) 1 1 [(⟨#[97]⟩, ⟨#[120]⟩)] w (rowD1 h) rfl (by omega) (fun h => by cases h)).mono fun v w' h => ?_
  obtain ⟨h, hF⟩ := h
  rcases h with ⟨h, _⟩ | ⟨_, h⟩
  · exact absurd doc_ax1 h
  · exact ⟨h, hF⟩
set_option maxHeartbeats 400000 in
theorem wakes_any (w : World) (hT : Table w) :
    Rt Tryd.prog 11 [] w (fun v w' => v = .bool true ∧ From w w') := by
  obtain ⟨L, hL⟩ : ∃ L, (encD [(⟨#[97]⟩, ⟨#[120]⟩)]).length = L := ⟨_, rfl⟩
  refine enter (n := 47) Tryd.func11 rfl rfl rfl ?_
  refine cd_seq (cd_region ?_)
  refine asb rfl ?_
  refine st_nil (nx_then (cd_seq (cd_region ?_)))
  refine st_val (ro_build (l := [(0, .const (.string ⟨#[97]⟩)), (1, .const (.string ⟨#[120]⟩))]) (ScLaw_b43_0cstring97_1cstring120)) ?_
  refine st_litK2 ScLaw_q32 rfl rfl rfl ?_
  intro b9 w1 E9 hb9 hk9
  refine st_call ScLaw_k15 (new_ax1 b9 _ hk9) ?_
  rintro v10 w2 ⟨⟨s10, rfl, hs10⟩, E10⟩
  refine mvt rfl ?_
  refine st_val (ro_extract rfl rfl) ?_
  refine st_val (ro_extract rfl rfl) ?_
  refine asp rfl ?_
  refine asi rfl ?_
  refine st_nil (nx_then (cd_seq (cd_region ?_)))
  refine mvp rfl ?_
  refine st_call ScLaw_k10 (enc_m _ s10 [(⟨#[97]⟩, ⟨#[120]⟩)] L _ (hs10.from_ From.rfl_) hL (hT.from_ ((From.rfl_.next E9).next E10))) ?_
  rintro v15 w3 ⟨⟨A15, c15, rfl, hr15⟩, E15⟩
  refine mvt rfl ?_
  refine st_val (ro_extract rfl rfl) ?_
  refine st_val (ro_extract rfl rfl) ?_
  refine ass rfl ?_
  refine asi rfl ?_
  refine st_nil (nx_then (cd_seq (cd_region ?_)))
  refine mvs rfl ?_
  refine st_call ScLaw_k5 (dec_m [(⟨#[97]⟩, ⟨#[120]⟩)] A15 c15 L _ doc_ax1 hL (hr15.from_ From.rfl_) (hT.from_ (((From.rfl_.next E9).next E10).next E15))) ?_
  rintro v20 w4 ⟨⟨s20, rfl, hs20⟩, E20⟩
  refine mvt rfl ?_
  refine st_val (ro_extract rfl rfl) ?_
  refine st_val (ro_extract rfl rfl) ?_
  refine asp rfl ?_
  refine asi rfl ?_
  refine st_nil (nx_then (cd_seq (cd_region ?_)))
  refine mvi rfl ?_
  refine st_call ScLaw_k7 (num_any _ _) ?_
  rintro v24 w5 ⟨rfl, rfl⟩
  refine st_val (ro_eql rfl rfl) ?_
  refine mvb rfl ?_
  refine st_split (t := 26) rfl (fun Q6 => ?_) (fun Q6 => ?_)
  rotate_left
  · with_reducible replace Q6 := of_decide_eq_false Q6
    exfalso; omega
  with_reducible replace Q6 := of_decide_eq_true Q6
  refine st_unguard rfl ?_
  refine mvi rfl ?_
  refine st_unguard rfl ?_
  refine st_call ScLaw_k7 (num_any _ _) ?_
  rintro v28 w7 ⟨rfl, rfl⟩
  refine st_unguard rfl ?_
  refine st_val (ro_eql rfl rfl) ?_
  refine st_val (ro_pickT (v := .bool _) rfl rfl) ?_
  refine mvb rfl ?_
  refine st_split (t := 31) rfl (fun Q8 => ?_) (fun Q8 => ?_)
  rotate_left
  · with_reducible replace Q8 := of_decide_eq_false Q8
    exfalso; omega
  with_reducible replace Q8 := of_decide_eq_true Q8
  refine st_unguard rfl ?_
  refine mvi rfl ?_
  refine st_unguard rfl ?_
  refine st_call ScLaw_k7 (num_any _ _) ?_
  rintro v33 w9 ⟨rfl, rfl⟩
  refine st_unguard rfl ?_
  refine st_val (ro_eql rfl rfl) ?_
  refine st_val (ro_pickT (v := .bool _) rfl rfl) ?_
  refine mvb rfl ?_
  refine st_split (t := 36) rfl (fun Q10 => ?_) (fun Q10 => ?_)
  rotate_left
  · with_reducible replace Q10 := of_decide_eq_false Q10
    exfalso; omega
  with_reducible replace Q10 := of_decide_eq_true Q10
  refine st_unguard rfl ?_
  refine mvp rfl ?_
  refine st_unguard rfl ?_
  refine st_val (ro_bt (ro_neqNil (by kernel_rfl) rfl rfl) rfl) ?_
  refine st_val (ro_pickT (v := .bool _) rfl rfl) ?_
  refine mvb rfl ?_
  refine st_unguard rfl ?_
  refine mvp rfl ?_
  refine st_unguard rfl ?_
  refine st_call ScLaw_k9 (docs_rt _ s20 [(⟨#[97]⟩, ⟨#[120]⟩)] _ (hs20.from_ From.rfl_)) ?_
  rintro v42 w11 ⟨⟨A42, c42, rfl, ho42⟩, E42⟩
  refine st_unguard rfl ?_
  refine st_val (ro_build (l := [(0, .const (.string ⟨#[97]⟩)), (1, .const (.string ⟨#[120]⟩))]) (ScLaw_b43_0cstring97_1cstring120)) ?_
  refine st_unguard rfl ?_
  refine st_litK2 ScLaw_q32 rfl rfl rfl ?_
  intro b44 w12 E44 hb44 hk44
  refine st_unguard rfl ?_
  refine st_call ScLaw_k19 (eqDocs_same A42 (some ⟨b44, 0, none⟩) c42 1 1 1 [(⟨#[97]⟩, ⟨#[120]⟩)] _ ((RowK.own dV_len (by decide) ho42).2.from_ E44) (rowD1 hk44) rfl rfl (by omega)) ?_
  rintro v45 w13 ⟨rfl, E45⟩
  refine st_val (ro_pickT (v := .bool _) rfl rfl) ?_
  refine asb rfl ?_
  refine st_nil (nx_then (cd_ret ?_))
  refine res1 (v := .bool _) rfl rfl ?_
  exact ⟨rfl, (((((((From.rfl_.next E9).next E10).next E15).next E20).next E42).next E44).next E45)⟩
set_option maxHeartbeats 2000000 in
theorem any_law (A : Option Addr) (c : Nat) (xs : List (Ty.sl (.int .u8)).den) (w : World) (hlen : xs.length * (Ty.sl (.int .u8)).bytes ≤ 140737488351232) (hx : 0 < xs.length → ∃ b o, A = some ⟨b, o, none⟩ ∧ ∀ (i : Nat) (hi : i < xs.length), (Ty.sl (.int .u8)).At w (fun j => w.cell? ⟨b, o + i * (Ty.sl (.int .u8)).size + j, none⟩) xs[i]) (hT : Table w) :
    Rt Tryd.prog 3 [.slice A xs.length c] w (fun v w' => v = .bool true ∧ From w w') := by
  refine enter (n := 85) Tryd.func3 rfl rfl rfl ?_
  refine cd_seq (cd_region ?_)
  refine asb rfl ?_
  refine st_nil (nx_then (cd_seq (cd_seq (cd_region ?_))))
  refine asi rfl ?_
  refine st_nil (nx_then (cd_block ?_))
  refine cd_loop (G := Nat) [2, 4, 5, 6, 7, 8, 9, 10, 11, 12, 13, 14, 15, 16, 17, 18, 19, 20, 21, 22, 23, 24, 25, 26, 27, 28, 29, 30, 31, 32, 33, 34, 35, 36, 37, 38, 39, 40, 41, 42, 43, 44, 45, 46, 47, 48, 49, 50, 51, 52, 53, 54, 55, 56, 57, 58, 59, 60, 61, 62, 63, 64, 65, 66, 67, 68, 69, 70, 71, 72, 73, 74, 75, 76, 77, 78, 79, 80, 81, 82, 83] (fun i => [(3, .int .i64 (i : Nat))]) (fun i w' => i ≤ 12 ∧ From w w') (fun i => 12 - i) (0) ⟨rfl, trivial⟩ ?_ ?_
  · exact ⟨Nat.zero_le _, From.rfl_⟩
  rintro i ρ1 w1 ⟨hi, hB⟩
  refine cd_seq (cd_seq (cd_region ?_))
  refine mvi rfl ?_
  refine mvs rfl ?_
  refine st_val (ro_len ScLaw_l22 rfl) ?_
  refine st_val (ro_lss rfl rfl) ?_
  refine mvb rfl ?_
  refine st_split (t := 13) rfl (fun Q2 => ?_) (fun Q2 => ?_)
  · with_reducible replace Q2 := of_decide_eq_true Q2
    refine st_unguard rfl ?_
    refine mvi rfl ?_
    refine st_unguard rfl ?_
    refine st_val (ro_lss rfl rfl) ?_
    refine st_val (ro_pickT (v := .bool _) rfl rfl) ?_
    refine st_nil (nx_then ?_)
    refine cd_cond rfl (fun Q3 => ?_) (fun Q3 => ?_)
    · with_reducible replace Q3 := of_decide_eq_true Q3
      have hil : i < xs.length := by omega
      obtain ⟨b, o, hA, hat⟩ := hx (by omega)
      subst hA
      obtain ⟨Ai, ci, li, hci, hri, hbi, hli, hcap⟩ := at_bytes' (hat i hil)
      have hcell : w.cell? ⟨b, o + i, none⟩ = some (.slice Ai li.length ci) := by simpa [Ty.size] using hci
      refine cd_skip (nx_then (cd_seq (cd_block (cd_seq (cd_seq (cd_region ?_))))))
      refine mvs rfl ?_
      refine mvi rfl ?_
      refine st_val (ro_indexAddr1 ScLaw_e22 rfl rfl (by omega)) ?_
      refine st_val (ro_load ScLaw_g23 rfl (by exact cellF hB hcell)) ?_
      refine st_val (ro_len ScLaw_l23 rfl) ?_
      refine st_val (ro_gtr rfl rfl) ?_
      refine st_nil (nx_then ?_)
      refine cd_cond rfl (fun Q4 => ?_) (fun Q4 => ?_)
      · with_reducible replace Q4 := of_decide_eq_true Q4
        refine cd_seq (cd_region ?_)
        refine asb rfl ?_
        refine st_nil (nx_then (cd_ret (rt_then (rt_block (rt_then (rt_then (rt_block (rt_then ?_))))))))
        refine res1 (v := .bool _) rfl rfl ?_
        exact ⟨rfl, hB⟩
      with_reducible replace Q4 := of_decide_eq_false Q4
      refine cd_skip (nx_then (cd_seq (cd_region ?_)))
      refine mvs rfl ?_
      refine mvi rfl ?_
      refine st_val (ro_indexAddr1 ScLaw_e22 rfl rfl (by omega)) ?_
      refine st_val (ro_load ScLaw_g23 rfl (by exact cellF hB hcell)) ?_
      refine st_call ScLaw_k4 (copyBytes_any Ai ci li _ (hri.from_ hB) (by omega)) ?_
      rintro v29 w5 ⟨A29, c29, rfl, ho29, E29⟩
      refine ass rfl ?_
      refine st_nil (nx_then (cd_seq (cd_region ?_)))
      refine mvs rfl ?_
      refine st_call ScLaw_k5 (decode_rt A29 c29 _ li _ rfl (RowC.of_own ho29) hbi (by omega) (hT.from_ (hB.next E29))) ?_
      rintro v32 w6 ⟨hp32, E32⟩
      rcases hp32 with ⟨ds, s, hg, rfl, hsg⟩ | ⟨hno, rfl⟩
      · have hdl := (doc_zero hg.1).2.1
        refine mvt rfl ?_
        refine st_val (ro_extract rfl rfl) ?_
        refine st_val (ro_extract rfl rfl) ?_
        refine asp rfl ?_
        refine asi rfl ?_
        refine st_nil (nx_then (cd_seq (cd_seq (cd_region ?_))))
        refine mvs rfl ?_
        refine mvs rfl ?_
        refine mvi rfl ?_
        refine st_val (ro_indexAddr1 ScLaw_e22 rfl rfl (by omega)) ?_
        refine st_val (ro_load ScLaw_g23 rfl (by exact cellF ((hB.next E29).next E32) hcell)) ?_
        refine st_call ScLaw_k6 (eq_same A29 Ai c29 ci _ li _ rfl ((RowOf.of_row (f := bV) (RowC.of_own ho29).1).2.from_ E32) (hri.from_ ((hB.next E29).next E32)) hli) ?_
        rintro v40 w7 ⟨rfl, E40⟩
        refine st_val (ro_not rfl) ?_
        refine mvb rfl ?_
        refine st_split (t := 42) rfl (fun Q8 => ?_) (fun Q8 => ?_)
        · with_reducible replace Q8 := bn_t Q8
          exfalso; contradiction
        with_reducible replace Q8 := bn_f Q8
        refine st_unguard rfl ?_
        refine mvi rfl ?_
        refine st_unguard rfl ?_
        refine st_call ScLaw_k7 (num_any _ _) ?_
        rintro v44 w9 ⟨rfl, rfl⟩
        refine st_unguard rfl ?_
        refine st_val (ro_neq rfl rfl) ?_
        refine st_unguard rfl ?_
        refine mvb rfl ?_
        refine st_split (t := 46) rfl (fun Q10 => ?_) (fun Q10 => ?_)
        · with_reducible replace Q10 := bx_t Q10
          exfalso; omega
        with_reducible replace Q10 := bx_f Q10
        refine st_gno rfl rfl ?_
        refine st_gno rfl rfl ?_
        refine st_gno rfl rfl ?_
        refine st_gno rfl rfl ?_
        refine st_gund rfl ?_
        refine st_gund rfl ?_
        refine st_gno rfl rfl ?_
        refine st_unguard rfl ?_
        refine st_val (ro_pickF (v := .bool _) rfl rfl) ?_
        refine st_val (ro_pickF (v := .bool _) rfl rfl) ?_
        refine st_nil (nx_then ?_)
        refine cd_condF rfl ?_
        refine cd_skip (nx_then (cd_seq (cd_region ?_)))
        refine mvi rfl ?_
        refine st_call ScLaw_k7 (num_any _ _) ?_
        rintro v57 w23 ⟨rfl, rfl⟩
        refine st_val (ro_eql rfl rfl) ?_
        refine st_nil (nx_then ?_)
        refine cd_cond rfl (fun Q24 => ?_) (fun Q24 => ?_)
        rotate_left
        · with_reducible replace Q24 := of_decide_eq_false Q24
          exfalso; omega
        with_reducible replace Q24 := of_decide_eq_true Q24
        refine cd_seq (cd_seq (cd_region ?_))
        refine mvp rfl ?_
        refine st_val (ro_bf (ro_eqlNil (by kernel_rfl) rfl rfl) rfl) ?_
        refine mvb rfl ?_
        refine st_unguard rfl ?_
        refine mvp rfl ?_
        refine st_unguard rfl ?_
        refine st_call ScLaw_k9 (docs_rt _ s ds _ (hsg.from_ (From.rfl_.next E40))) ?_
        rintro v63 w25 ⟨⟨A63, c63, rfl, ho63⟩, E63⟩
        refine st_unguard rfl ?_
        refine st_call ScLaw_k8 (docs_zero A63 c63 ds.length ds _ (RowK.own dV_len (by decide) ho63).2 rfl (by omega) hg.1) ?_
        rintro v64 w26 ⟨rfl, E64⟩
        refine st_unguard rfl ?_
        refine st_val (ro_neq rfl rfl) ?_
        refine st_val (ro_pickF (v := .bool _) rfl rfl) ?_
        refine st_nil (nx_then ?_)
        refine cd_cond rfl (fun Q27 => ?_) (fun Q27 => ?_)
        · with_reducible replace Q27 := bx_t Q27
          exfalso; omega
        with_reducible replace Q27 := bx_f Q27
        refine cd_skip (nx_then (cd_seq (cd_region ?_)))
        refine mvp rfl ?_
        refine st_call ScLaw_k10 (enc_l _ s li ds _ (hsg.from_ (((From.rfl_.next E40).next E63).next E64)) hg (hT.from_ (((((hB.next E29).next E32).next E40).next E63).next E64))) ?_
        rintro v69 w28 ⟨⟨A69, c69, rfl, hr69⟩, E69⟩
        refine mvt rfl ?_
        refine st_val (ro_extract rfl rfl) ?_
        refine st_val (ro_extract rfl rfl) ?_
        refine ass rfl ?_
        refine asi rfl ?_
        refine st_nil (nx_then (cd_seq (cd_region ?_)))
        refine mvi rfl ?_
        refine st_call ScLaw_k7 (num_any _ _) ?_
        rintro v73 w29 ⟨rfl, rfl⟩
        refine st_val (ro_neq rfl rfl) ?_
        refine mvb rfl ?_
        refine st_split (t := 75) rfl (fun Q30 => ?_) (fun Q30 => ?_)
        · with_reducible replace Q30 := bx_t Q30
          exfalso; omega
        with_reducible replace Q30 := bx_f Q30
        refine st_unguard rfl ?_
        refine mvs rfl ?_
        refine st_unguard rfl ?_
        refine mvs rfl ?_
        refine st_unguard rfl ?_
        refine mvi rfl ?_
        refine st_unguard rfl ?_
        refine st_val (ro_indexAddr1 ScLaw_e22 rfl rfl (by omega)) ?_
        refine st_unguard rfl ?_
        refine st_val (ro_load ScLaw_g23 rfl (by exact cellF ((((((hB.next E29).next E32).next E40).next E63).next E64).next E69) hcell)) ?_
        refine st_unguard rfl ?_
        refine st_call ScLaw_k6 (eq_same A69 Ai c69 ci _ li _ rfl hr69 (hri.from_ ((((((hB.next E29).next E32).next E40).next E63).next E64).next E69)) hli) ?_
        rintro v81 w31 ⟨rfl, E81⟩
        refine st_unguard rfl ?_
        refine st_val (ro_not rfl) ?_
        refine st_val (ro_pickF (v := .bool _) rfl rfl) ?_
        refine st_nil (nx_then ?_)
        refine cd_cond rfl (fun Q32 => ?_) (fun Q32 => ?_)
        · with_reducible replace Q32 := bn_t Q32
          exfalso; contradiction
        with_reducible replace Q32 := bn_f Q32
        refine cd_skip (nx_block (nx_then (cd_region ?_)))
        refine mvi rfl ?_
        refine st_val (ro_addN (b := 1) rfl rfl (by omega)) ?_
        refine asi rfl ?_
        refine st_nil ?_
        refine nx_cut (i + 1) ⟨(by first | rfl | (refine int_eq ?_; omega)), trivial⟩ (by (iterate 167 refine agr_cons rfl ?_); exact agr_rfl) ⟨?_, ?_⟩
        · exact ⟨by omega, (((((((hB.next E29).next E32).next E40).next E63).next E64).next E69).next E81)⟩
        · omega
      refine mvt rfl ?_
      refine st_val (ro_extract rfl rfl) ?_
      refine st_val (ro_extract rfl rfl) ?_
      refine asp rfl ?_
      refine asi rfl ?_
      refine st_nil (nx_then (cd_seq (cd_seq (cd_region ?_))))
      refine mvs rfl ?_
      refine mvs rfl ?_
      refine mvi rfl ?_
      refine st_val (ro_indexAddr1 ScLaw_e22 rfl rfl (by omega)) ?_
      refine st_val (ro_load ScLaw_g23 rfl (by exact cellF ((hB.next E29).next E32) hcell)) ?_
      refine st_call ScLaw_k6 (eq_same A29 Ai c29 ci _ li _ rfl ((RowOf.of_row (f := bV) (RowC.of_own ho29).1).2.from_ E32) (hri.from_ ((hB.next E29).next E32)) hli) ?_
      rintro v40 w33 ⟨rfl, E40⟩
      refine st_val (ro_not rfl) ?_
      refine mvb rfl ?_
      refine st_split (t := 42) rfl (fun Q34 => ?_) (fun Q34 => ?_)
      · with_reducible replace Q34 := bn_t Q34
        exfalso; contradiction
      with_reducible replace Q34 := bn_f Q34
      refine st_unguard rfl ?_
      refine mvi rfl ?_
      refine st_unguard rfl ?_
      refine st_call ScLaw_k7 (num_any _ _) ?_
      rintro v44 w35 ⟨rfl, rfl⟩
      refine st_unguard rfl ?_
      refine st_val (ro_neq rfl rfl) ?_
      refine st_unguard rfl ?_
      refine mvb rfl ?_
      refine st_split (t := 46) rfl (fun Q36 => ?_) (fun Q36 => ?_)
      rotate_left
      · with_reducible replace Q36 := bx_f Q36
        exfalso; omega
      with_reducible replace Q36 := bx_t Q36
      refine st_unguard rfl ?_
      refine mvi rfl ?_
      refine st_unguard rfl ?_
      refine st_call ScLaw_k7 (num_any _ _) ?_
      rintro v48 w47 ⟨rfl, rfl⟩
      refine st_unguard rfl ?_
      refine st_val (ro_neq rfl rfl) ?_
      refine st_unguard rfl ?_
      refine mvb rfl ?_
      refine st_split (t := 50) rfl (fun Q48 => ?_) (fun Q48 => ?_)
      · with_reducible replace Q48 := bx_t Q48
        exfalso; omega
      with_reducible replace Q48 := bx_f Q48
      refine st_unguard rfl ?_
      refine mvp rfl ?_
      refine st_unguard rfl ?_
      refine st_val (ro_bf (ro_neqNil (by kernel_rfl) rfl rfl) rfl) ?_
      refine st_unguard rfl ?_
      refine st_val (ro_pickF (v := .bool _) rfl rfl) ?_
      refine st_unguard rfl ?_
      refine st_val (ro_pickT (v := .bool _) rfl rfl) ?_
      refine st_val (ro_pickF (v := .bool _) rfl rfl) ?_
      refine st_nil (nx_then ?_)
      refine cd_condF rfl ?_
      refine cd_skip (nx_then (cd_seq (cd_region ?_)))
      refine mvi rfl ?_
      refine st_call ScLaw_k7 (num_any _ _) ?_
      rintro v57 w49 ⟨rfl, rfl⟩
      refine st_val (ro_eql rfl rfl) ?_
      refine st_nil (nx_then ?_)
      refine cd_cond rfl (fun Q50 => ?_) (fun Q50 => ?_)
      · with_reducible replace Q50 := of_decide_eq_true Q50
        exfalso; omega
      with_reducible replace Q50 := of_decide_eq_false Q50
      refine cd_skip (nx_block (nx_then (cd_region ?_)))
      refine mvi rfl ?_
      refine st_val (ro_addN (b := 1) rfl rfl (by omega)) ?_
      refine asi rfl ?_
      refine st_nil ?_
      refine nx_cut (i + 1) ⟨(by first | rfl | (refine int_eq ?_; omega)), trivial⟩ (by (iterate 140 refine agr_cons rfl ?_); exact agr_rfl) ⟨?_, ?_⟩
      · exact ⟨by omega, (((hB.next E29).next E32).next E40)⟩
      · omega
    with_reducible replace Q3 := of_decide_eq_false Q3
    refine cd_exit ?_
    refine ex_then (ex_then (ex_block (nx_then (cd_seq (cd_region ?_)))))
    refine st_call ScLaw_k11 (wakes_any _ (hT.from_ hB)) ?_
    rintro v84 w59 ⟨rfl, E84⟩
    refine asb rfl ?_
    refine st_nil (nx_then (cd_ret ?_))
    refine res1 (v := .bool _) rfl rfl ?_
    exact ⟨rfl, (hB.next E84)⟩
  with_reducible replace Q2 := of_decide_eq_false Q2
  refine st_gno rfl rfl ?_
  refine st_gno rfl rfl ?_
  refine st_val (ro_pickF (v := .bool _) rfl rfl) ?_
  refine st_nil (nx_then ?_)
  refine cd_condF rfl ?_
  refine cd_exit ?_
  refine ex_then (ex_then (ex_block (nx_then (cd_seq (cd_region ?_)))))
  refine st_call ScLaw_k11 (wakes_any _ (hT.from_ hB)) ?_
  rintro v84 w60 ⟨rfl, E84⟩
  refine asb rfl ?_
  refine st_nil (nx_then (cd_ret ?_))
  refine res1 (v := .bool _) rfl rfl ?_
  exact ⟨rfl, (hB.next E84)⟩
/-- A WORLD FOR THE WITNESS: the settled one, the variables holding what their initialisers lay. -/
noncomputable def SegcodeAny_world (os : Os) : World :=
  { World.holding Tryd.prog os ⟨#[], #[], []⟩ with heap := (World.holding Tryd.prog os ⟨#[], #[], []⟩).heap.modify 0 fun | .cells _ t frozen => .cells #[.int .u32 0, .int .u32 498536548, .int .u32 997073096, .int .u32 651767980, .int .u32 1994146192, .int .u32 1802195444, .int .u32 1303535960, .int .u32 1342533948, .int .u32 3988292384, .int .u32 4027552580, .int .u32 3604390888, .int .u32 3412177804, .int .u32 2607071920, .int .u32 2262029012, .int .u32 2685067896, .int .u32 3183342108] t frozen | o => o }
theorem SegcodeAny_met (os : Os) : laidMet Tryd.prog Rows.segcodeAnyRow.laid ((SegcodeAny_world os).forCall (fun _ _ => 0) ⟨#[], #[.slice none 0 0], []⟩).memory :=
  laidMet_of_run' 8 (by kernel_rfl) (by kernel_rfl)
theorem SegcodeAny_reads (os : Os) {H : Type} (enc : TypeId × Value → H) : ∃ places, DataW.whole enc Tryd.prog ((SegcodeAny_world os).forCall (fun _ _ => 0) ⟨#[], #[.slice none 0 0], []⟩).memory Tryd.f3.params.toList Rows.segcodeAnySpec.vars false #[(.slice none 0 0 : Value)].toList 8 = some ([.nil], [], places) :=
  ⟨[], by kernel_rfl⟩

theorem SegcodeAny_lifted (os : Os) (started : os.Started) (H : Type) (enc : TypeId × Value → H) (F : Stop.Interp) :
    ReturnsInHanded {} Tryd.checked os 3 .any ((OpenSpec.ofChange Rows.segcodeAnySpec).preRow enc Tryd.prog Tryd.f3 Rows.segcodeAnyRow.domain false Rows.segcodeAnyRow.laid) (((OpenSpec.ofChange Rows.segcodeAnySpec).at F).post enc Tryd.prog Tryd.f3 false true false false) := by
  obtain ⟨places, hx⟩ := SegcodeAny_reads os enc
  refine returnsInHanded_of_row (C := Tryd.checked) (s := OpenSpec.ofChange Rows.segcodeAnySpec) Tryd.own started (by kernel_rfl) Tryd.func3
    (witness_row_at (enc := enc) (C := Tryd.checked) false (SegcodeAny_world os) #[.slice none 0 0] rfl (by kernel_rfl) (by kernel_rfl) (by kernel_rfl)
      (OpenSpec.preRow_of_cond 8 hx (by kernel_rfl) (fun k hk => by cases hk) (by kernel_rfl) (SegcodeAny_met os))) ?_
  intro W base args ds gs before hval hW _ _ hsz hL hS _
  exact law_step_laid 3 Tryd.f3 22 4 Rows.segcodeAnySpec Tryd.params3 (by kernel_rfl) Tryd.underlying4 rfl (fun _ => rfl) (by kernel_rfl) (of_decide_eq_true (by kernel_rfl)) Rows.segcodeAnyRow.laid (walk_laid_sl (.sl (.int .u8)) (by kernel_rfl) Rows.segcodeAnyRow.laid (fun _ h => table_of h) any_law) W base args ds gs before hval hW hsz hL hS

theorem SegcodeAny_said : Rows.SegcodeAnySaid :=
  OpenClaim.holds_of_cond 3 Tryd.f3 rfl rfl rfl rfl rfl rfl rfl ⟨rfl, rfl, rfl, rfl, rfl⟩ rfl rfl rfl rfl rfl (by kernel_rfl) Tryd.func3 (by kernel_rfl)
    (of_decide_eq_true (by kernel_rfl)) (by unfold Func.isWrapper; first | (rw [if_pos (by decide +kernel)]; kernel_rfl) | (rw [if_neg (by decide +kernel)]; exact ⟨rfl, rfl⟩))
    (fun os started H enc _ F => by rw [OpenClaim.pre_eq_preRow]; exact SegcodeAny_lifted os started H enc F)

theorem SegcodeAny_plain (f : FuncId) (fn : Func) (hf : Tryd.pinned.checked.prog.funcNamed "lectern/lecternlaw11.SegcodeAny" = some f) (hfn : Tryd.pinned.checked.prog.funcs[f]? = some fn) :
    false = Tryd.pinned.checked.prog.looks [] ∧ ∀ (j : Nat) t, fn.params[j]? = some t → Tryd.pinned.checked.prog.wantsStandIn t = false := by
  obtain rfl : f = 3 := Option.some.inj ((show Tryd.prog.funcNamed "lectern/lecternlaw11.SegcodeAny" = some 3 by kernel_rfl).symm.trans hf) |>.symm
  obtain rfl : fn = Tryd.f3 := (Option.some.inj (Tryd.func3.symm.trans hfn)).symm
  refine ⟨by kernel_rfl, fun j t ht => ?_⟩
  rw [(Tryd.params3)] at ht
  obtain rfl : t = 22 := by simpa using Array.mem_of_getElem? ht
  exact (show Tryd.prog.wantsStandIn 22 = false by kernel_rfl)

theorem SegcodeAny_holds : Rows.SegcodeAnyCardSaid :=
  Claim7.holds_tied_plain_at .later [] _ _ _ _ SegcodeAny_said (fun _ h => by cases h) (by kernel_rfl) (fun _ h => by cases h) segcodeAny_row_tie rfl ⟨rfl, rfl⟩ (by kernel_rfl) rfl SegcodeAny_plain (by kernel_rfl)
#print axioms SegcodeAny_holds

end Go.Proofs.YtglndihdhaaccaaDoor
