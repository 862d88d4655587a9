/- session: clone; the reference: CopySessions, drop; EqSessions. -/
import Derived.Test.YtbikemhokgcboaaSesSlices
import Derived.Test.YtbikemhokgcboaaSesOpen0
namespace Go.Proofs.Ytbikemhokgcboaa
open Go.RowKit
open Go.ChangeShapes Go.WideShapes Go.ChangeAt
theorem SesCopy_z29 : sizeQ Try.prog 29 = some 1 := by kernel_rfl
theorem SesCopy_k52 : callable Try.prog 52 = true := by kernel_rfl
theorem SesCopy_l22 : (elemQ Try.prog 22).isSome = true := by kernel_rfl
theorem SesCopy_e22 : elemQ Try.prog 22 = some (60, 6) := by kernel_rfl
theorem SesCopy_f60_2 : fieldQ Try.prog 60 2 = some 2 := by kernel_rfl
theorem SesCopy_f31_2 : fieldQ Try.prog 31 2 = some 2 := by kernel_rfl
theorem SesCopy_l29 : (elemQ Try.prog 29).isSome = true := by kernel_rfl
theorem SesCopy_o31 : zeroQ Try.prog 31 = some (.agg #[.int .i64 0, .int .i64 0, .slice none 0 0]) := by kernel_rfl
theorem SesCopy_g31 : aggQ Try.prog 31 = some true := by kernel_rfl
theorem SesCopy_z31 : sizeQ Try.prog 31 = some 3 := by kernel_rfl
theorem SesCopy_g29 : aggQ Try.prog 29 = some false := by kernel_rfl
theorem SesCopy_k43 : callable Try.prog 43 = true := by kernel_rfl
theorem SesCopy_o60 : zeroQ Try.prog 60 = some (.agg #[.int .i64 0, .int .i64 0, .int .i64 0, .int .i64 0, .slice none 0 0, .int .i64 0]) := by kernel_rfl
theorem SesCopy_g60 : aggQ Try.prog 60 = some true := by kernel_rfl
theorem SesCopy_z60 : sizeQ Try.prog 60 = some 6 := by kernel_rfl
theorem SesCopy_k21 : callable Try.prog 21 = true := by kernel_rfl
theorem SesCopy_q22 : litQ Try.prog 22 = some (60, 6, 64, (.agg #[.int .i64 0, .int .i64 0, .int .i64 0, .int .i64 0, .slice none 0 0, .int .i64 0])) := by kernel_rfl
theorem SesCopy_k31 : callable Try.prog 31 = true := by kernel_rfl
theorem SesCopy_k10 : callable Try.prog 10 = true := by kernel_rfl
theorem ses_len (x : Ses) : (sesV x).length = 6 := rfl
theorem ses_one (L : List Ses) : ∀ u ∈ L.flatMap sesV, u.oneCell' = true := flat_one (fun x _ => by simp [sesV, Value.oneCell'])
def norm (x : Ses) : Ses := { x with H := none, hl := 0, hc := 0 }
def upTo (k : Nat) (L : List Ses) : List Ses := (L.take k).map norm ++ L.drop k
theorem upTo_len {k : Nat} {L : List Ses} : (upTo k L).length = L.length := by simp [upTo]; omega
theorem upTo_get {k : Nat} {L : List Ses} (h : k < L.length) : (upTo k L)[k]'(by rw [upTo_len]; exact h) = L[k] := by
  unfold upTo
  rw [List.getElem_append_right (by simp; omega), List.getElem_drop]
  congr 1
  simp
  omega
theorem upTo_set {k : Nat} {L : List Ses} (h : k < L.length) : (upTo k L).set k (norm L[k]) = upTo (k + 1) L := by
  unfold upTo
  rw [List.set_append_right _ _ (by simp; omega), List.drop_eq_getElem_cons h, List.take_succ_eq_append_getElem h, List.map_append, show k - ((L.take k).map norm).length = 0 by simp; omega, List.set_cons_zero]
  simp
theorem upTo_all {L : List Ses} : upTo L.length L = L.map norm := by simp [upTo]
theorem rowS_own {w : World} {base e n c : Nat} {A : Option Addr} {L : List Ses} (h : w.ownsRow base e 6 (.slice A n c) n (L.flatMap sesV)) : L.length = n ∧ RowS w A L := RowK.own ses_len (by decide) h
theorem rowS_flat {w : World} {A : Option Addr} {L : List Ses} (h : RowS w A L) : 0 < L.length → ∃ b o, A = some ⟨b, o, none⟩ ∧ w.rangeAt b o (L.flatMap sesV) := RowK.flat (f := sesV) (s := 6) ses_len h
theorem norm_set {k : Nat} {L : List Ses} (h : k < L.length) : (((upTo k L).flatMap sesV).set (k * 6 + 4) (.slice none 0 0)) = (upTo (k + 1) L).flatMap sesV := by
  rw [set_flat ses_len _ k 4 (by rw [upTo_len]; exact h) (by decide) (norm L[k]) _ (by rw [upTo_get h]; rfl), upTo_set h]
set_option maxRecDepth 100000 in
set_option maxHeartbeats 400000 in
theorem cloneS_rt (A : Option Addr) (c : Nat) (L : List Ses) (w : World) (hr : RowS w A L) (hl : L.length ≤ 1000) (hn0 : A = none → c = 0) :
    Rt Try.prog 42 [.slice A L.length c] w (fun v w' => (∃ A' c', v = .slice A' L.length c' ∧ w'.ownsRow w.heap.size 60 6 (.slice A' L.length c') L.length ((L.map norm).flatMap sesV)) ∧ From w w') := by
  refine enter (n := 19) Try.func42 rfl rfl rfl ?_
  refine cd_seq ?_
  refine cd_region ?_
  refine st_val (ro_assign (v := .slice _ _ _) rfl) ?_
  refine st_nil ?_
  refine nx_then ?_
  refine cd_seq ?_
  refine cd_region ?_
  refine st_val (ro_move (v := .slice _ _ _) rfl) ?_
  refine st_call SesCopy_k52 (clone_rt A c L.length (L.flatMap sesV) _ (flat_len ses_len L) (rowS_flat hr) (fun h => ⟨by rcases Nat.eq_zero_or_pos L.length with a | a; exact a; (obtain ⟨b, o, hA, _⟩ := hr a; rw [hA] at h; cases h), hn0 h⟩) (ses_one L) (by omega)) ?_
  rintro v6 w1 ⟨⟨A6, c6, rfl, ho6⟩, E6⟩
  refine st_val (ro_assign (v := .slice _ _ _) rfl) ?_
  refine st_nil ?_
  refine nx_then ?_
  refine cd_seq ?_
  refine cd_seq ?_
  refine cd_region ?_
  refine st_val (ro_move (v := .slice _ _ _) rfl) ?_
  refine st_val (ro_len SesCopy_l22 rfl) ?_
  refine st_val (ro_move (v := .int _ _) rfl) ?_
  refine st_nil ?_
  refine nx_then ?_
  refine cd_block ?_
  refine cd_loop (G := Nat) [4, 10, 11, 12, 13, 14, 15, 16, 17] (fun k => [(9, .int .i64 (k : Nat))]) (fun k w' => k ≤ L.length ∧ w'.ownsRow w.heap.size 60 6 (.slice A6 L.length c6) L.length ((upTo k L).flatMap sesV) ∧ From w w') (fun k => L.length - k) (0) ⟨rfl, trivial⟩ ?_ ?_
  · exact ⟨Nat.zero_le _, ho6, (From.rfl_.next E6)⟩
  rintro k ρ2 w2 ⟨hk, ho4, hB⟩
  refine cd_seq ?_
  refine cd_region ?_
  refine st_val (ro_lss rfl rfl) ?_
  refine st_nil ?_
  refine nx_then ?_
  refine cd_seq ?_
  refine cd_cond rfl (fun Q3 => ?_) (fun Q3 => ?_)
  · (try first | replace Q3 := bn_t Q3 | replace Q3 := bn_f Q3)
    (try first | replace Q3 := bx_t Q3 | replace Q3 := bx_f Q3 | replace Q3 := be_t Q3 | replace Q3 := be_f Q3 | replace Q3 := of_decide_eq_true Q3 | replace Q3 := of_decide_eq_false Q3)
    obtain ⟨g4, rfl⟩ := own_some ho4 (by omega)
    first
     | (exfalso; first | omega | contradiction | (cases Q3; done))
     | skip
       refine cd_skip ?_
       refine nx_then ?_
       refine cd_seq ?_
       refine cd_block ?_
       refine cd_seq ?_
       refine cd_region ?_
       refine st_val (ro_move (v := .int _ _) rfl) ?_
       refine st_val (ro_assign (v := .int _ _) rfl) ?_
       refine st_nil ?_
       refine nx_then ?_
       refine cd_region ?_
       refine st_val (ro_move (v := .slice _ _ _) rfl) ?_
       refine st_val (ro_move (v := .int _ _) rfl) ?_
       refine st_val (ro_indexAddrN SesCopy_e22 rfl rfl (by omega)) ?_
       refine st_val (ro_fieldAddr SesCopy_f60_2 rfl) ?_
       refine st_val (ro_fieldAddr SesCopy_f31_2 rfl) ?_
       refine st_putOwnC (size := 6) (o := k * 6 + 4) (v := .slice none 0 0) SesCopy_z29 (by show Value.pointer (some ⟨g4, 0 + k * 6 + 2 + 2, none⟩) = _; rw [Nat.zero_add]) rfl rfl ho4 (by omega) ?_
       intro w4 O5 P5
       refine st_nil ?_
       refine nx_block ?_
       refine nx_then ?_
       refine cd_region ?_
       refine st_val (ro_addN (b := 1) rfl rfl (by omega)) ?_
       refine st_val (ro_move (v := .int _ _) rfl) ?_
       refine st_nil ?_
       refine nx_cut (k + 1) ⟨(by first | rfl | (refine int_eq ?_; omega)), trivial⟩ (by (iterate 20 refine agr_cons rfl ?_); exact agr_rfl) ⟨?_, ?_⟩
       · exact ⟨by omega, by rw [← norm_set (k := k) (L := L) (by omega)]; exact P5, (hB.only O5 (own_at ho4 _ rfl).1)⟩
       · omega
  · (try first | replace Q3 := bn_t Q3 | replace Q3 := bn_f Q3)
    (try first | replace Q3 := bx_t Q3 | replace Q3 := bx_f Q3 | replace Q3 := be_t Q3 | replace Q3 := be_f Q3 | replace Q3 := of_decide_eq_true Q3 | replace Q3 := of_decide_eq_false Q3)
    first
     | (exfalso; first | omega | contradiction | (cases Q3; done))
     | skip
       refine cd_exit ?_
       refine ex_then ?_
       refine ex_then ?_
       refine ex_block ?_
       refine nx_then ?_
       refine cd_seq ?_
       refine cd_region ?_
       refine st_val (ro_move (v := .slice _ _ _) rfl) ?_
       refine st_val (ro_assign (v := .slice _ _ _) rfl) ?_
       refine st_nil ?_
       refine nx_then ?_
       refine cd_ret ?_
       refine res1 (v := .slice _ _ _) rfl rfl ?_
       obtain rfl : k = L.length := by omega
       rw [upTo_all] at ho4
       exact ⟨⟨A6, c6, rfl, ho4⟩, hB⟩
set_option maxRecDepth 100000 in
set_option maxHeartbeats 400000 in
theorem copyHits0 (A : Option Addr) (c : Nat) (w : World) :
    Rt Try.prog 43 [.slice A 0 c] w (fun v w' => v = .slice none 0 0 ∧ w = w') := by
  refine enter (n := 19) Try.func43 rfl rfl rfl ?_
  refine cd_seq ?_
  refine cd_region ?_
  refine st_val (ro_assign (v := .slice _ _ _) rfl) ?_
  refine st_nil ?_
  refine nx_then ?_
  refine cd_seq ?_
  refine cd_region ?_
  refine st_val (ro_assign (v := .slice _ _ _) rfl) ?_
  refine st_nil ?_
  refine nx_then ?_
  refine cd_seq ?_
  refine cd_seq ?_
  refine cd_region ?_
  refine st_val (ro_assign (v := .int _ _) rfl) ?_
  refine st_nil ?_
  refine nx_then ?_
  refine cd_block ?_
  refine cd_loop (G := Unit) [5, 6, 7, 8, 9, 10, 11, 12, 13, 14, 15, 16, 17] (fun _ => [(3, .slice none 0 0), (4, .int .i64 0)]) (fun _ w' => w = w') (fun _ => 0) (()) ⟨rfl, rfl, trivial⟩ ?_ ?_
  · rfl
  rintro - ρ1 w1 rfl
  refine cd_seq ?_
  refine cd_seq ?_
  refine cd_region ?_
  refine st_val (ro_move (v := .int _ _) rfl) ?_
  refine st_val (ro_move (v := .slice _ _ _) rfl) ?_
  refine st_val (ro_len SesCopy_l29 rfl) ?_
  refine st_val (ro_bf (ro_lss rfl rfl) rfl) ?_
  refine st_nil ?_
  refine nx_then ?_
  refine cd_condF rfl ?_
  refine cd_exit ?_
  refine ex_then ?_
  refine ex_then ?_
  refine ex_block ?_
  refine nx_then ?_
  refine cd_seq ?_
  refine cd_region ?_
  refine st_val (ro_move (v := .slice _ _ _) rfl) ?_
  refine st_val (ro_assign (v := .slice _ _ _) rfl) ?_
  refine st_nil ?_
  refine nx_then ?_
  refine cd_ret ?_
  refine res1 (v := .slice _ _ _) rfl rfl ?_
  exact ⟨rfl, rfl⟩
set_option maxRecDepth 100000 in
set_option maxHeartbeats 400000 in
theorem copyReply0 (e n : Int) (H : Option Addr) (hc : Nat) (w : World) :
    Rt Try.prog 21 [.agg #[.int .i64 e, .int .i64 n, .slice H 0 hc]] w (fun v w' => v = .agg #[.int .i64 e, .int .i64 n, .slice none 0 0] ∧ From w w') := by
  refine enter (n := 10) Try.func21 rfl rfl rfl ?_
  refine cd_seq ?_
  refine cd_region ?_
  refine st_box (v := .agg _) rfl ?_
  intro b1 w1 E1 hb1 hk1
  have hl1 := hk1.lt
  refine st_alloc SesCopy_o31 ?_
  intro b2 w2 E2 hb2 hk2
  replace hk1 := hk1.from_ E2
  have hl2 := hk2.lt
  have hg2 : w.heap.size ≤ b2 := by rw [hb2]; exact ((From.rfl_.next E1)).size
  refine st_nil ?_
  refine nx_then ?_
  refine cd_seq ?_
  refine cd_region ?_
  refine st_val (ro_loadA (cs := [_, _, _]) SesCopy_g31 SesCopy_z31 rfl (by exact hk1.whole)) ?_
  refine st_alloc SesCopy_o31 ?_
  intro b3 w3 E3 hb3 hk3
  replace hk1 := hk1.from_ E3
  replace hk2 := hk2.from_ E3
  have hl3 := hk3.lt
  have hg3 : w.heap.size ≤ b3 := by rw [hb3]; exact (((From.rfl_.next E1).next E2)).size
  refine st_putW (vs := [_, _, _]) SesCopy_z31 rfl rfl (by simp [Value.oneCell']) (hk3) rfl ?_
  intro w4 O1 P1
  replace hk1 := hk1.only O1 (by omega)
  replace hk2 := hk2.only O1 (by omega)
  refine st_nil ?_
  refine nx_then ?_
  refine cd_seq ?_
  refine cd_region ?_
  refine st_val (ro_fieldAddr SesCopy_f31_2 rfl) ?_
  refine st_val (ro_load SesCopy_g29 rfl (by exact hk1.rd 2 rfl)) ?_
  refine st_call SesCopy_k43 (copyHits0 H hc _) ?_
  rintro v7 w5 ⟨rfl, rfl⟩
  refine st_val (ro_fieldAddr SesCopy_f31_2 rfl) ?_
  refine st_put (v := .slice _ _ _) SesCopy_z29 rfl rfl rfl (P1) (by show 0 + 2 < 3; decide) ?_
  intro w6 O2 P2
  replace hk2 := hk2.only O2 (by omega)
  have P2b : Blk w6 b3 31 [.int .i64 e, .int .i64 n, .slice none 0 0].toArray := P2
  refine st_nil ?_
  refine nx_then ?_
  refine cd_seq ?_
  refine cd_region ?_
  refine st_val (ro_loadA (cs := [_, _, _]) SesCopy_g31 SesCopy_z31 rfl (by exact P2b.whole)) ?_
  refine st_putW (vs := [_, _, _]) SesCopy_z31 rfl rfl (by simp [Value.oneCell']) (hk2) rfl ?_
  intro w7 O3 P3
  refine st_nil ?_
  refine nx_then ?_
  refine cd_ret ?_
  refine resr1 rfl (rv_cellA (cs := [_, _, _]) SesCopy_g31 SesCopy_z31 rfl (by exact P3.whole)) ?_
  exact ⟨rfl, ((((((From.rfl_.next E1).next E2).next E3).only O1 (hg3)).only O2 (hg3)).only O3 (hg2))⟩
set_option maxRecDepth 100000 in
set_option maxHeartbeats 400000 in
theorem copySession0 (x : Ses) (w : World) (h0 : x.hl = 0) :
    Rt Try.prog 31 [.agg #[.int .i64 x.c, .int .i64 x.s, .int .i64 x.e, .int .i64 x.n, .slice x.H x.hl x.hc, .int .i64 x.u]] w (fun v w' => v = .agg (sesV (norm x)).toArray ∧ From w w') := by
  obtain ⟨c, s, e, n, H, hl, hc, u⟩ := x
  obtain rfl : hl = 0 := h0
  refine enter (n := 10) Try.func31 rfl rfl rfl ?_
  refine cd_seq ?_
  refine cd_region ?_
  refine st_box (v := .agg _) rfl ?_
  intro b1 w1 E1 hb1 hk1
  have hl1 := hk1.lt
  refine st_alloc SesCopy_o60 ?_
  intro b2 w2 E2 hb2 hk2
  replace hk1 := hk1.from_ E2
  have hl2 := hk2.lt
  have hg2 : w.heap.size ≤ b2 := by rw [hb2]; exact ((From.rfl_.next E1)).size
  refine st_nil ?_
  refine nx_then ?_
  refine cd_seq ?_
  refine cd_region ?_
  refine st_val (ro_loadA (cs := [_, _, _, _, _, _]) SesCopy_g60 SesCopy_z60 rfl (by exact hk1.whole)) ?_
  refine st_alloc SesCopy_o60 ?_
  intro b3 w3 E3 hb3 hk3
  replace hk1 := hk1.from_ E3
  replace hk2 := hk2.from_ E3
  have hl3 := hk3.lt
  have hg3 : w.heap.size ≤ b3 := by rw [hb3]; exact (((From.rfl_.next E1).next E2)).size
  refine st_putW (vs := [_, _, _, _, _, _]) SesCopy_z60 rfl rfl (by simp [Value.oneCell']) (hk3) rfl ?_
  intro w4 O1 P1
  replace hk1 := hk1.only O1 (by omega)
  replace hk2 := hk2.only O1 (by omega)
  refine st_nil ?_
  refine nx_then ?_
  refine cd_seq ?_
  refine cd_region ?_
  refine st_val (ro_fieldAddr SesCopy_f60_2 rfl) ?_
  refine st_val (ro_loadA (cs := [_, _, _]) SesCopy_g31 SesCopy_z31 rfl (by exact rep_of hk1)) ?_
  refine st_call SesCopy_k21 (copyReply0 e n H hc _) ?_
  rintro v7 w5 ⟨rfl, E7⟩
  replace P1 := P1.from_ E7
  replace hk2 := hk2.from_ E7
  refine st_val (ro_fieldAddr SesCopy_f60_2 rfl) ?_
  refine st_putA (vs := [.int .i64 e, .int .i64 n, .slice none 0 0]) (i := 0 + 2) SesCopy_z31 rfl rfl (by simp [Value.oneCell']) P1 (by show 0 + 2 + 3 ≤ 6; decide) ?_
  intro w6 O2 P2
  replace hk2 := hk2.only O2 (by omega)
  have P2b : Blk w6 b3 60 [.int .i64 c, .int .i64 s, .int .i64 e, .int .i64 n, .slice none 0 0, .int .i64 u].toArray := P2
  refine st_nil ?_
  refine nx_then ?_
  refine cd_seq ?_
  refine cd_region ?_
  refine st_val (ro_loadA (cs := [_, _, _, _, _, _]) SesCopy_g60 SesCopy_z60 rfl (by exact P2b.whole)) ?_
  refine st_putW (vs := [_, _, _, _, _, _]) SesCopy_z60 rfl rfl (by simp [Value.oneCell']) (hk2) rfl ?_
  intro w7 O3 P3
  refine st_nil ?_
  refine nx_then ?_
  refine cd_ret ?_
  refine resr1 rfl (rv_cellA (cs := [_, _, _, _, _, _]) SesCopy_g60 SesCopy_z60 rfl (by exact P3.whole)) ?_
  exact ⟨rfl, (((((((From.rfl_.next E1).next E2).next E3).only O1 (hg3)).next E7).only O2 hg3).only O3 (hg2))⟩
theorem fillS (x : Ses) : Instr.fill (fun i => some (i * 6, 6)) ((Array.range (1 * 6)).map ((Value.agg #[.int .i64 0, .int .i64 0, .int .i64 0, .int .i64 0, .slice none 0 0, .int .i64 0]).cells[· % (Value.agg #[.int .i64 0, .int .i64 0, .int .i64 0, .int .i64 0, .slice none 0 0, .int .i64 0]).cells.size]!)) [(0, .agg (sesV x).toArray)] = some (sesV x).toArray := by
  first
    | kernel_rfl
    | rfl
theorem take_flat_succ {L : List Ses} {k : Nat} (h : k < L.length) : ((L.take k).map norm).flatMap sesV ++ sesV (norm L[k]) = ((L.take (k + 1)).map norm).flatMap sesV := by
  rw [List.take_succ_eq_append_getElem h, List.map_append, List.flatMap_append]
  simp
set_option maxRecDepth 100000 in
set_option maxHeartbeats 400000 in
theorem copySessions0 (A : Option Addr) (c : Nat) (L : List Ses) (w : World) (hr : RowS w A L) (hl : L.length ≤ 1000) (h0 : ∀ i (h : i < L.length), L[i].hl = 0) :
    Rt Try.prog 10 [.slice A L.length c] w (fun v w' => (∃ A' c', v = .slice A' L.length c' ∧ w'.ownsRow w.heap.size 60 6 (.slice A' L.length c') L.length ((L.map norm).flatMap sesV)) ∧ From w w') := by
  refine enter (n := 20) Try.func10 rfl rfl rfl ?_
  refine cd_seq ?_
  refine cd_region ?_
  refine st_val (ro_assign (v := .slice _ _ _) rfl) ?_
  refine st_nil ?_
  refine nx_then ?_
  refine cd_seq ?_
  refine cd_region ?_
  refine st_val (ro_assign (v := .slice _ _ _) rfl) ?_
  refine st_nil ?_
  refine nx_then ?_
  refine cd_seq ?_
  refine cd_seq ?_
  refine cd_region ?_
  refine st_val (ro_assign (v := .int _ _) rfl) ?_
  refine st_nil ?_
  refine nx_then ?_
  refine cd_block ?_
  refine cd_loop (G := Nat × Option Addr × Nat) [5, 6, 7, 8, 9, 10, 11, 12, 13, 14, 15, 16, 17, 18] (fun (k, A3, c3) => [(3, .slice A3 k c3), (4, .int .i64 (k : Nat))]) (fun (k, A3, c3) w' => k ≤ L.length ∧ w'.ownsRow w.heap.size 60 6 (.slice A3 k c3) k (((L.take k).map norm).flatMap sesV) ∧ From w w') (fun (k, _, _) => L.length - k) ((0, none, 0)) ⟨rfl, rfl, trivial⟩ ?_ ?_
  · exact ⟨Nat.zero_le _, World.ownsRow_nil _ _ _ _, From.rfl_⟩
  rintro ⟨k, A3, c3⟩ ρ1 w1 ⟨hk, ho, hB⟩
  refine cd_seq ?_
  refine cd_seq ?_
  refine cd_region ?_
  refine st_val (ro_move (v := .int _ _) rfl) ?_
  refine st_val (ro_move (v := .slice _ _ _) rfl) ?_
  refine st_val (ro_len SesCopy_l22 rfl) ?_
  refine st_val (ro_lss rfl rfl) ?_
  refine st_nil ?_
  refine nx_then ?_
  refine cd_cond rfl (fun Q2 => ?_) (fun Q2 => ?_)
  · (try first | replace Q2 := bn_t Q2 | replace Q2 := bn_f Q2)
    (try first | replace Q2 := bx_t Q2 | replace Q2 := bx_f Q2 | replace Q2 := be_t Q2 | replace Q2 := be_f Q2 | replace Q2 := of_decide_eq_true Q2 | replace Q2 := of_decide_eq_false Q2)
    obtain ⟨ba, oa, rfl, hcs⟩ := hr (by omega)
    first
     | (exfalso; first | omega | contradiction | (cases Q2; done))
     | skip
       refine cd_skip ?_
       refine nx_then ?_
       refine cd_seq ?_
       refine cd_block ?_
       refine cd_region ?_
       refine st_val (ro_move (v := .slice _ _ _) rfl) ?_
       refine st_val (ro_move (v := .slice _ _ _) rfl) ?_
       refine st_val (ro_move (v := .int _ _) rfl) ?_
       refine st_val (ro_indexAddrN SesCopy_e22 rfl rfl (by omega)) ?_
       refine st_val (ro_loadA (cs := [_, _, _, _, _, _]) SesCopy_g60 SesCopy_z60 rfl (by exact rangeF hB (hcs k (by omega)))) ?_
       refine st_call SesCopy_k31 (copySession0 L[k] _ (h0 k (by omega))) ?_
       rintro v16 w3 ⟨rfl, E16⟩
       refine st_lit (cells := (sesV (norm L[k])).toArray) SesCopy_q22 rfl rfl (fillS (norm L[k])) ?_
       intro b17 w4 E17 hb17 hk17
       refine st_append (a0 := w) SesCopy_q22 rfl (by decide) rfl (ho.kept_from (E16.next E17)) ((hB.next E16).next E17) rfl (ses_len (norm L[k])) (fun _ => ⟨b17, 0, rfl, hk17.whole⟩) (fun h => by cases h) (by simp [sesV, Value.oneCell']) (by omega) (by omega) ?_
       intro A18 c18 w5 ho18 B18 hg18
       refine st_val (ro_assign (v := .slice _ _ _) rfl) ?_
       refine st_nil ?_
       refine nx_block ?_
       refine nx_then ?_
       refine cd_region ?_
       refine st_val (ro_move (v := .int _ _) rfl) ?_
       refine st_val (ro_addN (b := 1) rfl rfl (by omega)) ?_
       refine st_val (ro_assign (v := .int _ _) rfl) ?_
       refine st_nil ?_
       refine nx_cut ((k + 1, A18, c18)) ⟨(by first | rfl | (refine int_eq ?_; omega)), (by first | rfl | (refine int_eq ?_; omega)), trivial⟩ (by (iterate 32 refine agr_cons rfl ?_); exact agr_rfl) ⟨?_, ?_⟩
       · exact ⟨by omega, by rw [← take_flat_succ (by omega)]; exact ho18, B18⟩
       · show L.length - (k + 1) < L.length - k; omega
  · (try first | replace Q2 := bn_t Q2 | replace Q2 := bn_f Q2)
    (try first | replace Q2 := bx_t Q2 | replace Q2 := bx_f Q2 | replace Q2 := be_t Q2 | replace Q2 := be_f Q2 | replace Q2 := of_decide_eq_true Q2 | replace Q2 := of_decide_eq_false Q2)
    first
     | (exfalso; first | omega | contradiction | (cases Q2; done))
     | skip
       refine cd_exit ?_
       refine ex_then ?_
       refine ex_then ?_
       refine ex_block ?_
       refine nx_then ?_
       refine cd_seq ?_
       refine cd_region ?_
       refine st_val (ro_move (v := .slice _ _ _) rfl) ?_
       refine st_val (ro_assign (v := .slice _ _ _) rfl) ?_
       refine st_nil ?_
       refine nx_then ?_
       refine cd_ret ?_
       refine res1 (v := .slice _ _ _) rfl rfl ?_
       obtain rfl : k = L.length := by omega
       rw [List.take_length] at ho
       exact ⟨⟨A3, c3, rfl, ho⟩, hB⟩
theorem rowS_take {w : World} {A : Option Addr} {L : List Ses} (h : RowS w A L) (k : Nat) : RowS w A (L.take k) := RowK.take (f := sesV) (s := 6) h k
theorem rowS_rest {w : World} {A : Option Addr} {c : Nat} {L : List Ses} (h : RowS w A L) (k : Nat) (hk : k ≤ L.length) (hc : L.length ≤ c) : RowS w (restOf A c k 6) (L.drop k) := fun h0 => by
  rw [List.length_drop] at h0
  obtain ⟨b, o, rfl, _⟩ := h (by omega)
  rw [restOf_pos (by omega)]
  exact RowK.drop (f := sesV) (s := 6) h k hk (by rw [List.length_drop]; omega)
theorem restOf_none {A : Option Addr} {c l s : Nat} (h : restOf A c l s = none) : A = none := by
  unfold restOf at h
  split at h
  · exact h
  · cases A with
    | none => rfl
    | some a => cases h
set_option maxRecDepth 100000 in
set_option maxHeartbeats 400000 in
theorem drop_rt (A : Option Addr) (c : Nat) (L : List Ses) (w : World) (hr : RowS w A L) (hl : L.length ≤ 1000) (hc : L.length ≤ c) (hc9 : c ≤ 9223372036854775807) (k : Nat) (hk : k < L.length) (h0 : ∀ i (h : i < L.length), L[i].hl = 0) :
    Rt Try.prog 44 [.slice A L.length c, .int .i64 (k : Nat)] w (fun v w' => (∃ A' c', v = .slice A' (L.length - 1) c' ∧ w'.ownsRow w.heap.size 60 6 (.slice A' (L.length - 1) c') (L.length - 1) (((L.map norm).take k ++ L.drop (k + 1)).flatMap sesV)) ∧ From w w') := by
  refine enter (n := 16) Try.func44 rfl rfl rfl ?_
  refine cd_seq ?_
  refine cd_region ?_
  refine st_val (ro_assign (v := .slice _ _ _) rfl) ?_
  refine st_nil ?_
  refine nx_then ?_
  refine cd_seq ?_
  refine cd_region ?_
  refine st_val (ro_move (v := .slice _ _ _) rfl) ?_
  refine st_val (ro_move (v := .int _ _) rfl) ?_
  refine st_val (ro_eq (v' := .slice A (L.take k).length c) (ro_sliceO (l := 0) (h := k) SesCopy_e22 rfl (.inl ⟨rfl, rfl⟩) (.inr ⟨_, _, _, rfl, rfl, rfl⟩) (by omega) (by omega)) (by rw [restOf_head, List.length_take, Nat.min_eq_left (by omega)]; rfl)) ?_
  refine st_call SesCopy_k10 (copySessions0 A c (L.take k) _ (rowS_take hr k) (by rw [List.length_take]; omega) (fun i hi => by rw [List.getElem_take]; exact h0 i _)) ?_
  rintro v9 w1 ⟨⟨A9, c9, rfl, ho9⟩, E9⟩
  refine st_val (ro_assign (v := .slice _ _ _) rfl) ?_
  refine st_nil ?_
  refine nx_then ?_
  refine cd_seq ?_
  refine cd_region ?_
  refine st_val (ro_move (v := .slice _ _ _) rfl) ?_
  refine st_val (ro_move (v := .slice _ _ _) rfl) ?_
  refine st_val (ro_move (v := .int _ _) rfl) ?_
  refine st_val (ro_addN (b := 1) rfl rfl (by omega)) ?_
  refine st_val (ro_sliceO (l := k + 1) (h := L.length) SesCopy_e22 rfl (.inr ⟨_, _, _, rfl, rfl, rfl⟩) (.inl ⟨rfl, rfl⟩) (by omega) (by omega)) ?_
  refine st_append (a0 := w) (news := (L.drop (k + 1)).flatMap sesV) SesCopy_q22 rfl (by decide) rfl ho9 (From.rfl_.next E9) rfl (by rw [flat_len ses_len, List.length_drop]) (fun h => (rowS_flat ((rowS_rest hr (k + 1) (by omega) hc).from_ (From.rfl_.next E9)) (by rw [List.length_drop]; omega))) (fun h => by obtain ⟨b, o, hA, _⟩ := hr (by omega); rw [restOf_none h] at hA; cases hA) (ses_one _) (by rw [List.length_take]; omega) (by rw [List.length_take]; omega) ?_
  intro A15 c15 w2 ho15 B15 hg15
  refine st_val (ro_assign (v := .slice _ _ _) rfl) ?_
  refine st_nil ?_
  refine nx_then ?_
  refine cd_ret ?_
  refine res1 (v := .slice _ _ _) rfl rfl ?_
  have hn : (L.take k).length + (L.length - (k + 1)) = L.length - 1 := by rw [List.length_take]; omega
  rw [hn] at ho15 ⊢
  exact ⟨⟨A15, c15, rfl, by rw [List.flatMap_append, ← List.map_take]; exact ho15⟩, B15⟩
end Go.Proofs.Ytbikemhokgcboaa
