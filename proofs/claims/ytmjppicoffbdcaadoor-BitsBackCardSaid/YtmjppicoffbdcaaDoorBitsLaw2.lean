/- The laws BitsSelects and BitsBack. -/
import Derived.Test.YtmjppicoffbdcaaDoorBitsFind
import Derived.Test.YtmjppicoffbdcaaDoorCards
import Derived.Test.YtmjppicoffbdcaaDoorTie
import Derived.Lib.LaidTab
namespace Go.Proofs.YtmjppicoffbdcaaDoor
open Go.RowKit
open Go.ChangeShapes Go.WideShapes Go.ChangeAt
theorem BitsLaw2_l22 : (elemQ Tryd.prog 22).isSome = true := by kernel_rfl
theorem BitsLaw2_e22 : elemQ Tryd.prog 22 = some (4, 1) := by kernel_rfl
theorem BitsLaw2_g4 : aggQ Tryd.prog 4 = some false := by kernel_rfl
theorem BitsLaw2_g25 : aggQ Tryd.prog 25 = some true := by kernel_rfl
theorem BitsLaw2_z25 : sizeQ Tryd.prog 25 = some 2 := by kernel_rfl
theorem BitsLaw2_k6 : callable Tryd.prog 6 = true := by kernel_rfl
theorem BitsLaw2_k7 : callable Tryd.prog 7 = true := by kernel_rfl
theorem BitsLaw2_p27 : Tryd.prog.underlying 27 = some (.pointer (Tryd.prog.pointee 27)) := by kernel_rfl
theorem BitsLaw2_f25_0 : fieldQ Tryd.prog 25 0 = some 0 := by kernel_rfl
theorem BitsLaw2_g22 : aggQ Tryd.prog 22 = some false := by kernel_rfl
theorem BitsLaw2_k8 : callable Tryd.prog 8 = true := by kernel_rfl
theorem BitsLaw2_k10 : callable Tryd.prog 10 = true := by kernel_rfl
theorem BitsLaw2_k9 : callable Tryd.prog 9 = true := by kernel_rfl
theorem BitsLaw2_f25_1 : fieldQ Tryd.prog 25 1 = some 1 := by kernel_rfl
theorem BitsLaw2_g23 : aggQ Tryd.prog 23 = some false := by kernel_rfl
theorem BitsLaw2_l23 : (elemQ Tryd.prog 23).isSome = true := by kernel_rfl
theorem BitsLaw2_e23 : elemQ Tryd.prog 23 = some (3, 1) := by kernel_rfl
theorem BitsLaw2_g3 : aggQ Tryd.prog 3 = some false := by kernel_rfl
theorem BitsLaw2_k11 : callable Tryd.prog 11 = true := by kernel_rfl
theorem BitsLaw2_k12 : callable Tryd.prog 12 = true := by kernel_rfl
theorem BitsLaw2_k13 : callable Tryd.prog 13 = true := by kernel_rfl
theorem BitsLaw2_k14 : callable Tryd.prog 14 = true := by kernel_rfl
theorem BitsLaw2_k15 : callable Tryd.prog 15 = true := by kernel_rfl
/-- where the k-th one (nought) stands, if there is one -/
def selP (l : List Bool) (z : Bool) (k : Int) : Int := if 0 ≤ k then ((((List.range l.length).find? fun p => fl l z p && (cntB (fl l z) p == k.toNat)).getD 0 : Nat) : Int) else 0
def selO (l : List Bool) (z : Bool) (k : Int) : Bool := decide (0 ≤ k ∧ k < (cntB (fl l z) l.length : Nat))
def selE (l : List Bool) (z : Bool) (k : Int) : Int := if selO l z k = true then 0 else 3
theorem selP_at {l : List Bool} {z : Bool} {k p : Nat} (h1 : p < l.length) (h2 : fl l z p = true) (h3 : cntB (fl l z) p = k) : selP l z (k : Int) = (p : Nat) := by
  unfold selP
  rw [if_pos (by omega), Int.toNat_natCast]
  cases hf : (List.range l.length).find? fun p => fl l z p && (cntB (fl l z) p == k) with
  | none =>
    have := List.find?_eq_none.1 hf p (List.mem_range.2 h1)
    simp [h2, h3] at this
  | some q =>
    have := List.find?_some hf
    simp only [Bool.and_eq_true, beq_iff_eq] at this
    rw [Option.getD_some, nth_unique this.1 h2 (by rw [this.2, h3])]
theorem selO_at {l : List Bool} {z : Bool} {k p : Nat} (h1 : p < l.length) (h2 : fl l z p = true) (h3 : cntB (fl l z) p = k) : selO l z (k : Int) = true := by
  have := cntB_lt h2 h1
  exact decide_eq_true (by omega)
theorem selP_no {l : List Bool} {z : Bool} {k : Int} (h : selO l z k = false) : selP l z k = 0 := by
  have h1 := of_decide_eq_false h
  unfold selP
  by_cases h0 : 0 ≤ k
  · rw [if_pos h0]
    cases hf : (List.range l.length).find? fun p => fl l z p && (cntB (fl l z) p == k.toNat) with
    | none => rfl
    | some q =>
      have h2 := List.find?_some hf
      have h3 := List.mem_range.1 (List.mem_of_find?_eq_some hf)
      simp only [Bool.and_eq_true, beq_iff_eq] at h2
      have := cntB_lt h2.1 h3
      omega
  · rw [if_neg h0]
theorem sel_rt (base b : Nat) (l : List Bool) (w : World) (hv : Vec w base b l) (hT : TZ w) (k : Int) : Rt Tryd.prog 8 [.pointer (some ⟨b, 0, none⟩), .int .i64 k] w fun v w' => v = .tuple #[.int .i64 (selP l false k), .int .i64 (selE l false k)] ∧ From w w' := by
  cases ho : selO l false k with
  | true =>
    have h1 := of_decide_eq_true ho
    obtain ⟨q, rfl⟩ : ∃ q : Nat, k = (q : Int) := ⟨k.toNat, by omega⟩
    refine Rt.mono (sel_in base b l w hv hT q (by omega)) fun v w' ⟨p, p1, p2, p3, e, hF⟩ => ⟨?_, hF⟩
    rw [e, selP_at p1 p2 p3]
    unfold selE
    rw [if_pos ho]
  | false =>
    refine Rt.mono (sel_out base b l w hv k (of_decide_eq_false ho)) fun v w' ⟨e, hF⟩ => ⟨?_, hF⟩
    rw [e, selP_no ho]
    unfold selE
    rw [if_neg (by rw [ho]; decide)]
theorem sel0_rt (base b : Nat) (l : List Bool) (w : World) (hv : Vec w base b l) (hT : TZ w) (k : Int) : Rt Tryd.prog 9 [.pointer (some ⟨b, 0, none⟩), .int .i64 k] w fun v w' => v = .tuple #[.int .i64 (selP l true k), .int .i64 (selE l true k)] ∧ From w w' := by
  cases ho : selO l true k with
  | true =>
    have h1 := of_decide_eq_true ho
    obtain ⟨q, rfl⟩ : ∃ q : Nat, k = (q : Int) := ⟨k.toNat, by omega⟩
    refine Rt.mono (sel0_in base b l w hv hT q (by omega)) fun v w' ⟨p, p1, p2, p3, e, hF⟩ => ⟨?_, hF⟩
    rw [e, selP_at p1 p2 p3]
    unfold selE
    rw [if_pos ho]
  | false =>
    refine Rt.mono (sel0_out base b l w hv k (of_decide_eq_false ho)) fun v w' ⟨e, hF⟩ => ⟨?_, hF⟩
    rw [e, selP_no ho]
    unfold selE
    rw [if_neg (by rw [ho]; decide)]
theorem sel1_is (base b i : Nat) (l : List Bool) (w : World) (hv : Vec w base b l) (hT : TZ w) (hi : i < l.length) (hb : bt l i = true) : Rt Tryd.prog 8 [.pointer (some ⟨b, 0, none⟩), .int .i64 (rk l i : Nat)] w fun v w' => v = .tuple #[.int .i64 (i : Nat), .int .i64 0] ∧ From w w' := by
  have h2 : fl l false i = true := by unfold fl; rw [hb]; rfl
  refine Rt.mono (sel_rt base b l w hv hT (rk l i : Nat)) fun v w' ⟨e, hF⟩ => ⟨?_, hF⟩
  rw [e, selP_at hi h2 (fl_false l i)]
  unfold selE
  rw [if_pos (selO_at hi h2 (fl_false l i))]
theorem sel0_is (base b i : Nat) (l : List Bool) (w : World) (hv : Vec w base b l) (hT : TZ w) (hi : i < l.length) (hb : bt l i = false) : Rt Tryd.prog 9 [.pointer (some ⟨b, 0, none⟩), .int .i64 ((i - rk l i : Nat) : Int)] w fun v w' => v = .tuple #[.int .i64 (i : Nat), .int .i64 0] ∧ From w w' := by
  have h2 : fl l true i = true := by unfold fl; rw [hb]; rfl
  refine Rt.mono (sel0_rt base b l w hv hT ((i - rk l i : Nat) : Int)) fun v w' ⟨e, hF⟩ => ⟨?_, hF⟩
  rw [e, selP_at hi h2 (fl_true l i)]
  unfold selE
  rw [if_pos (selO_at hi h2 (fl_true l i))]
theorem table_of {W : World} (h : laidMetH Tryd.prog Rows.bitsSelectsRow.laid W) : TZ W := by
  have gTab : Tryd.prog.globalNamed "math/bits.deBruijn64tab" = some 0 := by kernel_rfl
  have gType : (Tryd.prog.globals[0]?).map (·.type) = some 60 := by kernel_rfl
  have c1 : Tryd.prog.cellsOf 5 = 1 := by kernel_rfl
  have c64 : Tryd.prog.cellsOf 60 = 64 := by kernel_rfl
  have ht : Lib.TabIs Tryd.prog W "math/bits.deBruijn64tab" .u8 (tz.map fun (x : Nat) => (x : Int)) :=
    Lib.tabIs_of_head (rest := []) gTab gType Tryd.underlying60 Tryd.underlying5 c1 c64 h
  intro i hi
  rw [ht.cell gTab i (by rw [List.length_map]; exact hi)]
  simp [hi]
set_option maxRecDepth 100000 in
set_option maxHeartbeats 400000 in
theorem refSelect_rt (A : Option Addr) (c k : Nat) (z : Bool) (l : List Bool) (w : World) (hr : RowOf boV w A l) (hl : l.length ≤ 1048576) (hk : k ≤ 9223372036854775807) :
    Rt Tryd.prog 11 [.slice A l.length c, .bool z, .int .i64 (k : Nat)] w (fun v w' => v = .tuple #[.int .i64 (selP l (!z) k), .bool (selO l (!z) k)] ∧ w = w') := by
  refine enter (n := 26) Tryd.func11 rfl rfl rfl ?_
  refine cd_seq ?_
  refine cd_region ?_
  refine st_val (ro_assign (v := .int _ _) rfl) ?_
  refine st_val (ro_assign (v := .bool _) rfl) ?_
  refine st_nil ?_
  refine nx_then ?_
  refine cd_seq ?_
  refine cd_seq ?_
  refine cd_region ?_
  refine st_val (ro_assign (v := .int _ _) rfl) ?_
  refine st_nil ?_
  refine nx_then ?_
  refine cd_block ?_
  refine cd_loop (G := Nat) [6, 7, 9, 10, 11, 12, 13, 14, 15, 16, 17, 18, 19, 20, 21, 22, 23, 24, 25] (fun i => [(2, .int .i64 ((k - cntB (fl l (!z)) i : Nat) : Int)), (8, .int .i64 (i : Nat))]) (fun i w' => i ≤ l.length ∧ cntB (fl l (!z)) i ≤ k ∧ w = w') (fun i => l.length - i) (0) ⟨rfl, rfl, trivial⟩ ?_ ?_
  · exact ⟨Nat.zero_le _, Nat.zero_le _, rfl⟩
  rintro i ρ1 w1 ⟨hi, hc, rfl⟩
  refine cd_seq ?_
  refine cd_seq ?_
  refine cd_region ?_
  refine st_val (ro_move (v := .int _ _) rfl) ?_
  refine st_val (ro_move (v := .slice _ _ _) rfl) ?_
  refine st_val (ro_len BitsLaw2_l22 rfl) ?_
  refine st_val (ro_lss rfl rfl) ?_
  refine st_nil ?_
  refine nx_then ?_
  refine cd_cond rfl (fun Q2 => ?_) (fun Q2 => ?_)
  · (try first | replace Q2 := bn_t Q2 | replace Q2 := bn_f Q2)
    (try first | replace Q2 := bx_t Q2 | replace Q2 := bx_f Q2 | replace Q2 := be_t Q2 | replace Q2 := be_f Q2 | replace Q2 := of_decide_eq_true Q2 | replace Q2 := of_decide_eq_false Q2)
    obtain ⟨ba, oa, rfl, hca⟩ := hr (by omega)
    have hc1 : cntB (fl l (!z)) (i + 1) = cntB (fl l (!z)) i + (fl l (!z) i).toNat := rfl
    first
     | (exfalso; first | omega | contradiction | (cases Q2; done))
     | skip
       refine cd_skip ?_
       refine nx_then ?_
       refine cd_seq ?_
       refine cd_block ?_
       refine cd_seq ?_
       refine cd_seq ?_
       refine cd_region ?_
       refine st_val (ro_move (v := .slice _ _ _) rfl) ?_
       refine st_val (ro_move (v := .int _ _) rfl) ?_
       refine st_val (ro_indexAddr1 BitsLaw2_e22 rfl rfl (by omega)) ?_
       refine st_val (ro_load BitsLaw2_g4 rfl (by exact hca i (by omega))) ?_
       refine st_val (ro_move (v := .bool _) rfl) ?_
       refine st_val (ro_neqB (by kernel_rfl) rfl rfl) ?_
       refine st_nil ?_
       refine nx_then ?_
       refine cd_cond rfl (fun Q3 => ?_) (fun Q3 => ?_)
       · (try first | replace Q3 := bn_t Q3 | replace Q3 := bn_f Q3)
         (try first | replace Q3 := bx_t Q3 | replace Q3 := bx_f Q3 | replace Q3 := be_t Q3 | replace Q3 := be_f Q3 | replace Q3 := of_decide_eq_true Q3 | replace Q3 := of_decide_eq_false Q3)
         have hf0 : fl l (!z) i = false := by unfold fl; rw [bt_at (by omega)]; cases z <;> cases hb : l[i] <;> simp_all
         rw [hf0] at hc1
         have hs2 : k - cntB (fl l (!z)) (i + 1) = k - cntB (fl l (!z)) i := by rw [hc1]; rfl
         have hc2 : cntB (fl l (!z)) (i + 1) ≤ k := by rw [hc1]; exact hc
         first
          | (exfalso; first | omega | contradiction | (cases Q3; done))
          | skip
            refine cd_exit ?_
            refine ex_then ?_
            refine ex_block ?_
            refine nx_then ?_
            refine cd_region ?_
            refine st_val (ro_move (v := .int _ _) rfl) ?_
            refine st_val (ro_addN (b := 1) rfl rfl (by omega)) ?_
            refine st_val (ro_assign (v := .int _ _) rfl) ?_
            refine st_nil ?_
            refine nx_cut (i + 1) ⟨(int_eq (by rw [hs2])), rfl, trivial⟩ (by (iterate 34 refine agr_cons rfl ?_); exact agr_rfl) ⟨?_, ?_⟩
            · exact ⟨by omega, by omega, rfl⟩
            · omega
       · (try first | replace Q3 := bn_t Q3 | replace Q3 := bn_f Q3)
         (try first | replace Q3 := bx_t Q3 | replace Q3 := bx_f Q3 | replace Q3 := be_t Q3 | replace Q3 := be_f Q3 | replace Q3 := of_decide_eq_true Q3 | replace Q3 := of_decide_eq_false Q3)
         have hf1 : fl l (!z) i = true := by unfold fl; rw [bt_at (by omega)]; cases z <;> cases hb : l[i] <;> simp_all
         rw [hf1] at hc1
         first
          | (exfalso; first | omega | contradiction | (cases Q3; done))
          | skip
            refine cd_skip ?_
            refine nx_then ?_
            refine cd_seq ?_
            refine cd_seq ?_
            refine cd_region ?_
            refine st_val (ro_move (v := .int _ _) rfl) ?_
            refine st_val (ro_eql rfl rfl) ?_
            refine st_nil ?_
            refine nx_then ?_
            refine cd_cond rfl (fun Q4 => ?_) (fun Q4 => ?_)
            · (try first | replace Q4 := bn_t Q4 | replace Q4 := bn_f Q4)
              (try first | replace Q4 := bx_t Q4 | replace Q4 := bx_f Q4 | replace Q4 := be_t Q4 | replace Q4 := be_f Q4 | replace Q4 := of_decide_eq_true Q4 | replace Q4 := of_decide_eq_false Q4)
              have hck : cntB (fl l (!z)) i = k := by omega
              first
               | (exfalso; first | omega | contradiction | (cases Q4; done))
               | skip
                 refine cd_seq ?_
                 refine cd_region ?_
                 refine st_val (ro_move (v := .int _ _) rfl) ?_
                 refine st_val (ro_assign (v := .int _ _) rfl) ?_
                 refine st_val (ro_assign (v := .bool _) rfl) ?_
                 refine st_nil ?_
                 refine nx_then ?_
                 refine cd_ret ?_
                 refine rt_then ?_
                 refine rt_block ?_
                 refine rt_then ?_
                 refine rt_then ?_
                 refine rt_block ?_
                 refine rt_then ?_
                 refine res2 (v := .int _ _) (v' := .bool _) rfl rfl rfl ?_
                 refine ⟨?_, rfl⟩
                 rw [selP_at (by omega) hf1 hck, selO_at (by omega) hf1 hck]
            · (try first | replace Q4 := bn_t Q4 | replace Q4 := bn_f Q4)
              (try first | replace Q4 := bx_t Q4 | replace Q4 := bx_f Q4 | replace Q4 := be_t Q4 | replace Q4 := be_f Q4 | replace Q4 := of_decide_eq_true Q4 | replace Q4 := of_decide_eq_false Q4)
              have hs2 : k - cntB (fl l (!z)) (i + 1) = k - cntB (fl l (!z)) i - 1 := by rw [hc1]; show k - (_ + 1) = _; omega
              have hc2 : cntB (fl l (!z)) (i + 1) ≤ k := by rw [hc1]; show _ + 1 ≤ k; omega
              first
               | (exfalso; first | omega | contradiction | (cases Q4; done))
               | skip
                 refine cd_skip ?_
                 refine nx_then ?_
                 refine cd_region ?_
                 refine st_val (ro_move (v := .int _ _) rfl) ?_
                 refine st_val (ro_subN (b := 1) rfl rfl (by omega)) ?_
                 refine st_val (ro_assign (v := .int _ _) rfl) ?_
                 refine st_nil ?_
                 refine nx_block ?_
                 refine nx_then ?_
                 refine cd_region ?_
                 refine st_val (ro_move (v := .int _ _) rfl) ?_
                 refine st_val (ro_addN (b := 1) rfl rfl (by omega)) ?_
                 refine st_val (ro_assign (v := .int _ _) rfl) ?_
                 refine st_nil ?_
                 refine nx_cut (i + 1) ⟨(int_eq (by rw [hs2])), rfl, trivial⟩ (by (iterate 39 refine agr_cons rfl ?_); exact agr_rfl) ⟨?_, ?_⟩
                 · exact ⟨by omega, by omega, rfl⟩
                 · omega
  · (try first | replace Q2 := bn_t Q2 | replace Q2 := bn_f Q2)
    (try first | replace Q2 := bx_t Q2 | replace Q2 := bx_f Q2 | replace Q2 := be_t Q2 | replace Q2 := be_f Q2 | replace Q2 := of_decide_eq_true Q2 | replace Q2 := of_decide_eq_false Q2)
    first
     | (exfalso; first | omega | contradiction | (cases Q2; done))
     | skip
       refine cd_exit ?_
       refine ex_then ?_
       refine ex_then ?_
       refine ex_block ?_
       refine nx_then ?_
       refine cd_seq ?_
       refine cd_region ?_
       refine st_val (ro_assign (v := .int _ _) rfl) ?_
       refine st_val (ro_assign (v := .bool _) rfl) ?_
       refine st_nil ?_
       refine nx_then ?_
       refine cd_ret ?_
       refine res2 (v := .int _ _) (v' := .bool _) rfl rfl rfl ?_
       obtain rfl : i = l.length := by omega
       have ho : selO l (!z) (k : Int) = false := decide_eq_false (by omega)
       refine ⟨?_, rfl⟩
       rw [selP_no ho, ho]
theorem refSelect_rt2 (A : Option Addr) (c : Nat) (k : Int) (z : Bool) (l : List Bool) (w : World) (hr : RowOf boV w A l) (hl : l.length ≤ 1048576) (hk : 0 ≤ k ∧ k ≤ 9223372036854775807) :
    Rt Tryd.prog 11 [.slice A l.length c, .bool z, .int .i64 k] w fun v w' => v = .tuple #[.int .i64 (selP l (!z) k), .bool (selO l (!z) k)] ∧ w = w' := by
  obtain ⟨q, rfl⟩ : ∃ q : Nat, k = (q : Int) := ⟨k.toNat, by omega⟩
  exact refSelect_rt A c q z l w hr hl (by omega)
set_option maxRecDepth 100000 in
set_option maxHeartbeats 3000000 in
theorem selects_law (A B : Option Addr) (ca cb : Nat) (l : List Bool) (is : List Int) (w : World) (hr : RowOf boV w A l) (hrB : RowOf iV w B is) (hB64 : ∀ x ∈ is, -9223372036854775808 ≤ x ∧ x ≤ 9223372036854775807) (hT : TZ w) :
    Rt Tryd.prog 3 [.agg #[.slice A l.length ca, .slice B is.length cb]] w (fun v w' => v = .bool true ∧ From w w') := by
  refine enter (n := 130) Tryd.func3 rfl rfl rfl ?_
  refine cd_seq ?_
  refine cd_region ?_
  refine st_box (v := .agg _) rfl ?_
  intro b1 w1 E1 hb1 hk1
  refine st_val (ro_assign (v := .bool _) rfl) ?_
  refine st_nil ?_
  refine nx_then ?_
  refine cd_seq ?_
  refine cd_seq ?_
  refine cd_region ?_
  refine st_val (ro_loadA (cs := [_, _]) BitsLaw2_g25 BitsLaw2_z25 rfl (by first | (first | exact (hP1.from_ From.rfl_).whole | exact (hP1.from_ From.rfl_).rd 0 rfl | exact (hP1.from_ From.rfl_).rd 1 rfl) | (first | exact (hk1.from_ From.rfl_).whole | exact (hk1.from_ From.rfl_).rd 0 rfl | exact (hk1.from_ From.rfl_).rd 1 rfl))) ?_
  refine st_call BitsLaw2_k6 (heavy_any A B _ ca _ cb _) ?_
  rintro v15 w2 ⟨rfl, E15⟩
  refine st_nil ?_
  refine nx_then ?_
  refine cd_cond rfl (fun Q3 => ?_) (fun Q3 => ?_)
  · (try first | replace Q3 := bn_t Q3 | replace Q3 := bn_f Q3)
    (try first | replace Q3 := bx_t Q3 | replace Q3 := bx_f Q3 | replace Q3 := be_t Q3 | replace Q3 := be_f Q3 | replace Q3 := of_decide_eq_true Q3 | replace Q3 := of_decide_eq_false Q3)
    first
     | (exfalso; first | omega | contradiction | (cases Q3; done))
     | skip
       refine cd_seq ?_
       refine cd_region ?_
       refine st_val (ro_assign (v := .bool _) rfl) ?_
       refine st_nil ?_
       refine nx_then ?_
       refine cd_ret ?_
       refine rt_then ?_
       refine res1 (v := .bool _) rfl rfl ?_
       exact ⟨rfl, ((From.rfl_.next E1).next E15)⟩
  · (try first | replace Q3 := bn_t Q3 | replace Q3 := bn_f Q3)
    (try first | replace Q3 := bx_t Q3 | replace Q3 := bx_f Q3 | replace Q3 := be_t Q3 | replace Q3 := be_f Q3 | replace Q3 := of_decide_eq_true Q3 | replace Q3 := of_decide_eq_false Q3)
    first
     | (exfalso; first | omega | contradiction | (cases Q3; done))
     | skip
       refine cd_skip ?_
       refine nx_then ?_
       refine cd_seq ?_
       refine cd_region ?_
       refine st_val (ro_loadA (cs := [_, _]) BitsLaw2_g25 BitsLaw2_z25 rfl (by first | (first | exact (hP1.from_ (From.rfl_.next E15)).whole | exact (hP1.from_ (From.rfl_.next E15)).rd 0 rfl | exact (hP1.from_ (From.rfl_.next E15)).rd 1 rfl) | (first | exact (hk1.from_ (From.rfl_.next E15)).whole | exact (hk1.from_ (From.rfl_.next E15)).rd 0 rfl | exact (hk1.from_ (From.rfl_.next E15)).rd 1 rfl))) ?_
       have hz17 := (((From.rfl_.next E1).next E15)).size
       refine st_call BitsLaw2_k7 (made_rt A B ca _ cb l _ (hr.from_ ((From.rfl_.next E1).next E15)) (by omega)) ?_
       rintro v17 w4 ⟨b, rfl, hv, E17⟩
       replace hv := hv.le hz17
       refine st_val (ro_assign (v := .pointer _) rfl) ?_
       refine st_nil ?_
       refine nx_then ?_
       refine cd_seq ?_
       refine cd_seq ?_
       refine cd_region ?_
       refine st_val (ro_move (v := .pointer _) rfl) ?_
       refine st_val (ro_eqlNil BitsLaw2_p27 rfl rfl) ?_
       refine st_nil ?_
       refine nx_then ?_
       refine cd_cond rfl (fun Q5 => ?_) (fun Q5 => ?_)
       · (try first | replace Q5 := bn_t Q5 | replace Q5 := bn_f Q5)
         (try first | replace Q5 := bx_t Q5 | replace Q5 := bx_f Q5 | replace Q5 := be_t Q5 | replace Q5 := be_f Q5 | replace Q5 := of_decide_eq_true Q5 | replace Q5 := of_decide_eq_false Q5)
         first
          | (exfalso; first | omega | contradiction | (cases Q5; done))
          | skip
            refine cd_seq ?_
            refine cd_region ?_
            refine st_val (ro_assign (v := .bool _) rfl) ?_
            refine st_nil ?_
            refine nx_then ?_
            refine cd_ret ?_
            refine rt_then ?_
            refine res1 (v := .bool _) rfl rfl ?_
            exact ⟨rfl, (((From.rfl_.next E1).next E15).next E17)⟩
       · (try first | replace Q5 := bn_t Q5 | replace Q5 := bn_f Q5)
         (try first | replace Q5 := bx_t Q5 | replace Q5 := bx_f Q5 | replace Q5 := be_t Q5 | replace Q5 := be_f Q5 | replace Q5 := of_decide_eq_true Q5 | replace Q5 := of_decide_eq_false Q5)
         first
          | (exfalso; first | omega | contradiction | (cases Q5; done))
          | skip
            refine cd_skip ?_
            refine nx_then ?_
            refine cd_seq ?_
            refine cd_region ?_
            refine st_val (ro_assign (v := .int _ _) rfl) ?_
            refine st_val (ro_assign (v := .int _ _) rfl) ?_
            refine st_nil ?_
            refine nx_then ?_
            refine cd_seq ?_
            refine cd_seq ?_
            refine cd_region ?_
            refine st_val (ro_assign (v := .int _ _) rfl) ?_
            refine st_nil ?_
            refine nx_then ?_
            refine cd_block ?_
            refine cd_loop (G := Nat) [2, 7, 8, 20, 21, 22, 23, 24, 25, 26, 27, 28, 29, 30, 31, 32, 33, 34, 35, 36, 37, 38, 39, 40, 41, 42, 43, 44, 45, 46, 47, 48, 49, 50, 51, 52, 53, 54, 55] (fun i => [(4, .int .i64 (rk l i : Nat)), (5, .int .i64 ((i - rk l i : Nat) : Int)), (6, .int .i64 (i : Nat))]) (fun i w' => i ≤ l.length ∧ Vec w' w.heap.size b l ∧ Blk w' b1 25 #[.slice A l.length ca, .slice B is.length cb] ∧ From w w') (fun i => l.length - i) (0) ⟨rfl, rfl, rfl, trivial⟩ ?_ ?_
            · exact ⟨Nat.zero_le _, hv.from_ From.rfl_, hk1.from_ ((From.rfl_.next E15).next E17), (((From.rfl_.next E1).next E15).next E17)⟩
            rintro i ρ6 w6 ⟨hi, hv, hP1, hB⟩
            refine cd_seq ?_
            refine cd_seq ?_
            refine cd_region ?_
            refine st_val (ro_move (v := .int _ _) rfl) ?_
            refine st_val (ro_fieldAddr BitsLaw2_f25_0 rfl) ?_
            refine st_val (ro_load BitsLaw2_g22 rfl (by first | (first | exact (hP1.from_ From.rfl_).whole | exact (hP1.from_ From.rfl_).rd 0 rfl | exact (hP1.from_ From.rfl_).rd 1 rfl) | (first | exact (hk1.from_ From.rfl_).whole | exact (hk1.from_ From.rfl_).rd 0 rfl | exact (hk1.from_ From.rfl_).rd 1 rfl))) ?_
            refine st_val (ro_len BitsLaw2_l22 rfl) ?_
            refine st_val (ro_lss rfl rfl) ?_
            refine st_nil ?_
            refine nx_then ?_
            refine cd_cond rfl (fun Q7 => ?_) (fun Q7 => ?_)
            · (try first | replace Q7 := bn_t Q7 | replace Q7 := bn_f Q7)
              (try first | replace Q7 := bx_t Q7 | replace Q7 := bx_f Q7 | replace Q7 := be_t Q7 | replace Q7 := be_f Q7 | replace Q7 := of_decide_eq_true Q7 | replace Q7 := of_decide_eq_false Q7)
              obtain ⟨ba, oa, rfl, hca⟩ := hr (by omega)
              have hrkl := rk_le l i
              have hrs0 := rk_succ l i
              first
               | (exfalso; first | omega | contradiction | (cases Q7; done))
               | skip
                 refine cd_skip ?_
                 refine nx_then ?_
                 refine cd_seq ?_
                 refine cd_block ?_
                 refine cd_seq ?_
                 refine cd_region ?_
                 refine st_val (ro_assign (v := .int _ _) rfl) ?_
                 refine st_nil ?_
                 refine nx_then ?_
                 refine cd_seq ?_
                 refine cd_region ?_
                 refine st_val (ro_assign (v := .int _ _) rfl) ?_
                 refine st_nil ?_
                 refine nx_then ?_
                 refine cd_seq ?_
                 refine cd_seq ?_
                 refine cd_region ?_
                 refine st_val (ro_fieldAddr BitsLaw2_f25_0 rfl) ?_
                 refine st_val (ro_load BitsLaw2_g22 rfl (by first | (first | exact (hP1.from_ From.rfl_).whole | exact (hP1.from_ From.rfl_).rd 0 rfl | exact (hP1.from_ From.rfl_).rd 1 rfl) | (first | exact (hk1.from_ From.rfl_).whole | exact (hk1.from_ From.rfl_).rd 0 rfl | exact (hk1.from_ From.rfl_).rd 1 rfl))) ?_
                 refine st_val (ro_move (v := .int _ _) rfl) ?_
                 refine st_val (ro_indexAddr1 BitsLaw2_e22 rfl rfl (by omega)) ?_
                 refine st_val (ro_load BitsLaw2_g4 rfl (by exact cellF hB (hca i (by omega)))) ?_
                 refine st_nil ?_
                 refine nx_then ?_
                 refine cd_cond rfl (fun Q8 => ?_) (fun Q8 => ?_)
                 · (try first | replace Q8 := bn_t Q8 | replace Q8 := bn_f Q8)
                   (try first | replace Q8 := bx_t Q8 | replace Q8 := bx_f Q8 | replace Q8 := be_t Q8 | replace Q8 := be_f Q8 | replace Q8 := of_decide_eq_true Q8 | replace Q8 := of_decide_eq_false Q8)
                   have hbi : bt l i = true := (bt_at (by omega)).trans Q8
                   rw [hbi] at hrs0
                   have hs4 : rk l (i + 1) = rk l i + 1 := hrs0
                   have hs5 : i + 1 - rk l (i + 1) = i - rk l i := by omega
                   first
                    | (exfalso; first | omega | contradiction | (cases Q8; done))
                    | skip
                      refine cd_seq ?_
                      refine cd_region ?_
                      refine st_val (ro_move (v := .pointer _) rfl) ?_
                      refine st_val (ro_move (v := .int _ _) rfl) ?_
                      refine st_call BitsLaw2_k8 (sel1_is _ b i l _ (hv.from_ From.rfl_) (hT.from_ hB) (by omega) hbi) ?_
                      rintro v35 w9 ⟨rfl, E35⟩
                      refine st_val (ro_move (v := .tuple _) rfl) ?_
                      refine st_val (ro_extract rfl rfl) ?_
                      refine st_val (ro_extract rfl rfl) ?_
                      refine st_val (ro_assign (v := .int _ _) rfl) ?_
                      refine st_val (ro_assign (v := .int _ _) rfl) ?_
                      refine st_nil ?_
                      refine nx_then ?_
                      refine cd_region ?_
                      refine st_val (ro_move (v := .int _ _) rfl) ?_
                      refine st_val (ro_addN (b := 1) rfl rfl (by omega)) ?_
                      refine st_val (ro_assign (v := .int _ _) rfl) ?_
                      refine st_nil ?_
                      refine nx_then ?_
                      refine cd_seq ?_
                      refine cd_region ?_
                      refine st_val (ro_move (v := .int _ _) rfl) ?_
                      refine st_call BitsLaw2_k10 (num_any _ _) ?_
                      rintro v49 w10 ⟨rfl, rfl⟩
                      refine st_val (ro_neq rfl rfl) ?_
                      refine st_val (ro_move (v := .bool _) rfl) ?_
                      refine st_split (t := 51) rfl (fun Q11 => ?_) (fun Q11 => ?_)
                      · (try first | replace Q11 := bn_t Q11 | replace Q11 := bn_f Q11)
                        (try first | replace Q11 := bx_t Q11 | replace Q11 := bx_f Q11 | replace Q11 := be_t Q11 | replace Q11 := be_f Q11 | replace Q11 := of_decide_eq_true Q11 | replace Q11 := of_decide_eq_false Q11)
                        first
                         | (exfalso; first | omega | contradiction | (cases Q11; done))
                         | skip
                           refine st_gno rfl rfl ?_
                           refine st_gno rfl rfl ?_
                           refine st_gno rfl rfl ?_
                           refine st_val (ro_pickT (v := .bool _) rfl rfl) ?_
                           refine st_nil ?_
                           refine nx_then ?_
                           refine cd_condT rfl ?_
                           refine cd_seq ?_
                           refine cd_region ?_
                           refine st_val (ro_assign (v := .bool _) rfl) ?_
                           refine st_nil ?_
                           refine nx_then ?_
                           refine cd_ret ?_
                           refine rt_block ?_
                           refine rt_then ?_
                           refine rt_then ?_
                           refine rt_block ?_
                           refine rt_then ?_
                           refine res1 (v := .bool _) rfl rfl ?_
                           exact ⟨rfl, (hB.next E35)⟩
                      · (try first | replace Q11 := bn_t Q11 | replace Q11 := bn_f Q11)
                        (try first | replace Q11 := bx_t Q11 | replace Q11 := bx_f Q11 | replace Q11 := be_t Q11 | replace Q11 := be_f Q11 | replace Q11 := of_decide_eq_true Q11 | replace Q11 := of_decide_eq_false Q11)
                        first
                         | (exfalso; first | omega | contradiction | (cases Q11; done))
                         | skip
                           refine st_unguard rfl ?_
                           refine st_val (ro_move (v := .int _ _) rfl) ?_
                           refine st_unguard rfl ?_
                           refine st_val (ro_move (v := .int _ _) rfl) ?_
                           refine st_unguard rfl ?_
                           refine st_val (ro_neq rfl rfl) ?_
                           refine st_val (ro_pickF (v := .bool _) rfl rfl) ?_
                           refine st_nil ?_
                           refine nx_then ?_
                           refine cd_cond rfl (fun Q12 => ?_) (fun Q12 => ?_)
                           · (try first | replace Q12 := bn_t Q12 | replace Q12 := bn_f Q12)
                             (try first | replace Q12 := bx_t Q12 | replace Q12 := bx_f Q12 | replace Q12 := be_t Q12 | replace Q12 := be_f Q12 | replace Q12 := of_decide_eq_true Q12 | replace Q12 := of_decide_eq_false Q12)
                             first
                              | (exfalso; first | omega | contradiction | (cases Q12; done))
                              | skip
                                refine cd_seq ?_
                                refine cd_region ?_
                                refine st_val (ro_assign (v := .bool _) rfl) ?_
                                refine st_nil ?_
                                refine nx_then ?_
                                refine cd_ret ?_
                                refine rt_block ?_
                                refine rt_then ?_
                                refine rt_then ?_
                                refine rt_block ?_
                                refine rt_then ?_
                                refine res1 (v := .bool _) rfl rfl ?_
                                exact ⟨rfl, (hB.next E35)⟩
                           · (try first | replace Q12 := bn_t Q12 | replace Q12 := bn_f Q12)
                             (try first | replace Q12 := bx_t Q12 | replace Q12 := bx_f Q12 | replace Q12 := be_t Q12 | replace Q12 := be_f Q12 | replace Q12 := of_decide_eq_true Q12 | replace Q12 := of_decide_eq_false Q12)
                             first
                              | (exfalso; first | omega | contradiction | (cases Q12; done))
                              | skip
                                refine cd_skip ?_
                                refine nx_block ?_
                                refine nx_then ?_
                                refine cd_region ?_
                                refine st_val (ro_move (v := .int _ _) rfl) ?_
                                refine st_val (ro_addN (b := 1) rfl rfl (by omega)) ?_
                                refine st_val (ro_assign (v := .int _ _) rfl) ?_
                                refine st_nil ?_
                                refine nx_cut (i + 1) ⟨(int_eq (by rw [hs4])), (int_eq (by rw [hs5])), rfl, trivial⟩ (by (iterate 77 refine agr_cons rfl ?_); exact agr_rfl) ⟨?_, ?_⟩
                                · exact ⟨by omega, hv.from_ (From.rfl_.next E35), hP1.from_ (From.rfl_.next E35), (hB.next E35)⟩
                                · omega
                 · (try first | replace Q8 := bn_t Q8 | replace Q8 := bn_f Q8)
                   (try first | replace Q8 := bx_t Q8 | replace Q8 := bx_f Q8 | replace Q8 := be_t Q8 | replace Q8 := be_f Q8 | replace Q8 := of_decide_eq_true Q8 | replace Q8 := of_decide_eq_false Q8)
                   have hbi : bt l i = false := (bt_at (by omega)).trans Q8
                   rw [hbi] at hrs0
                   have hs4 : rk l (i + 1) = rk l i := hrs0
                   have hs5 : i + 1 - rk l (i + 1) = i - rk l i + 1 := by omega
                   first
                    | (exfalso; first | omega | contradiction | (cases Q8; done))
                    | skip
                      refine cd_seq ?_
                      refine cd_region ?_
                      refine st_val (ro_move (v := .pointer _) rfl) ?_
                      refine st_val (ro_move (v := .int _ _) rfl) ?_
                      refine st_call BitsLaw2_k9 (sel0_is _ b i l _ (hv.from_ From.rfl_) (hT.from_ hB) (by omega) hbi) ?_
                      rintro v43 w13 ⟨rfl, E43⟩
                      refine st_val (ro_move (v := .tuple _) rfl) ?_
                      refine st_val (ro_extract rfl rfl) ?_
                      refine st_val (ro_extract rfl rfl) ?_
                      refine st_val (ro_assign (v := .int _ _) rfl) ?_
                      refine st_val (ro_assign (v := .int _ _) rfl) ?_
                      refine st_nil ?_
                      refine nx_then ?_
                      refine cd_region ?_
                      refine st_val (ro_move (v := .int _ _) rfl) ?_
                      refine st_val (ro_addN (b := 1) rfl rfl (by omega)) ?_
                      refine st_val (ro_assign (v := .int _ _) rfl) ?_
                      refine st_nil ?_
                      refine nx_then ?_
                      refine cd_seq ?_
                      refine cd_region ?_
                      refine st_val (ro_move (v := .int _ _) rfl) ?_
                      refine st_call BitsLaw2_k10 (num_any _ _) ?_
                      rintro v49 w14 ⟨rfl, rfl⟩
                      refine st_val (ro_neq rfl rfl) ?_
                      refine st_val (ro_move (v := .bool _) rfl) ?_
                      refine st_split (t := 51) rfl (fun Q15 => ?_) (fun Q15 => ?_)
                      · (try first | replace Q15 := bn_t Q15 | replace Q15 := bn_f Q15)
                        (try first | replace Q15 := bx_t Q15 | replace Q15 := bx_f Q15 | replace Q15 := be_t Q15 | replace Q15 := be_f Q15 | replace Q15 := of_decide_eq_true Q15 | replace Q15 := of_decide_eq_false Q15)
                        first
                         | (exfalso; first | omega | contradiction | (cases Q15; done))
                         | skip
                           refine st_gno rfl rfl ?_
                           refine st_gno rfl rfl ?_
                           refine st_gno rfl rfl ?_
                           refine st_val (ro_pickT (v := .bool _) rfl rfl) ?_
                           refine st_nil ?_
                           refine nx_then ?_
                           refine cd_condT rfl ?_
                           refine cd_seq ?_
                           refine cd_region ?_
                           refine st_val (ro_assign (v := .bool _) rfl) ?_
                           refine st_nil ?_
                           refine nx_then ?_
                           refine cd_ret ?_
                           refine rt_block ?_
                           refine rt_then ?_
                           refine rt_then ?_
                           refine rt_block ?_
                           refine rt_then ?_
                           refine res1 (v := .bool _) rfl rfl ?_
                           exact ⟨rfl, (hB.next E43)⟩
                      · (try first | replace Q15 := bn_t Q15 | replace Q15 := bn_f Q15)
                        (try first | replace Q15 := bx_t Q15 | replace Q15 := bx_f Q15 | replace Q15 := be_t Q15 | replace Q15 := be_f Q15 | replace Q15 := of_decide_eq_true Q15 | replace Q15 := of_decide_eq_false Q15)
                        first
                         | (exfalso; first | omega | contradiction | (cases Q15; done))
                         | skip
                           refine st_unguard rfl ?_
                           refine st_val (ro_move (v := .int _ _) rfl) ?_
                           refine st_unguard rfl ?_
                           refine st_val (ro_move (v := .int _ _) rfl) ?_
                           refine st_unguard rfl ?_
                           refine st_val (ro_neq rfl rfl) ?_
                           refine st_val (ro_pickF (v := .bool _) rfl rfl) ?_
                           refine st_nil ?_
                           refine nx_then ?_
                           refine cd_cond rfl (fun Q16 => ?_) (fun Q16 => ?_)
                           · (try first | replace Q16 := bn_t Q16 | replace Q16 := bn_f Q16)
                             (try first | replace Q16 := bx_t Q16 | replace Q16 := bx_f Q16 | replace Q16 := be_t Q16 | replace Q16 := be_f Q16 | replace Q16 := of_decide_eq_true Q16 | replace Q16 := of_decide_eq_false Q16)
                             first
                              | (exfalso; first | omega | contradiction | (cases Q16; done))
                              | skip
                                refine cd_seq ?_
                                refine cd_region ?_
                                refine st_val (ro_assign (v := .bool _) rfl) ?_
                                refine st_nil ?_
                                refine nx_then ?_
                                refine cd_ret ?_
                                refine rt_block ?_
                                refine rt_then ?_
                                refine rt_then ?_
                                refine rt_block ?_
                                refine rt_then ?_
                                refine res1 (v := .bool _) rfl rfl ?_
                                exact ⟨rfl, (hB.next E43)⟩
                           · (try first | replace Q16 := bn_t Q16 | replace Q16 := bn_f Q16)
                             (try first | replace Q16 := bx_t Q16 | replace Q16 := bx_f Q16 | replace Q16 := be_t Q16 | replace Q16 := be_f Q16 | replace Q16 := of_decide_eq_true Q16 | replace Q16 := of_decide_eq_false Q16)
                             first
                              | (exfalso; first | omega | contradiction | (cases Q16; done))
                              | skip
                                refine cd_skip ?_
                                refine nx_block ?_
                                refine nx_then ?_
                                refine cd_region ?_
                                refine st_val (ro_move (v := .int _ _) rfl) ?_
                                refine st_val (ro_addN (b := 1) rfl rfl (by omega)) ?_
                                refine st_val (ro_assign (v := .int _ _) rfl) ?_
                                refine st_nil ?_
                                refine nx_cut (i + 1) ⟨(int_eq (by rw [hs4])), (int_eq (by rw [hs5])), rfl, trivial⟩ (by (iterate 77 refine agr_cons rfl ?_); exact agr_rfl) ⟨?_, ?_⟩
                                · exact ⟨by omega, hv.from_ (From.rfl_.next E43), hP1.from_ (From.rfl_.next E43), (hB.next E43)⟩
                                · omega
            · (try first | replace Q7 := bn_t Q7 | replace Q7 := bn_f Q7)
              (try first | replace Q7 := bx_t Q7 | replace Q7 := bx_f Q7 | replace Q7 := be_t Q7 | replace Q7 := be_f Q7 | replace Q7 := of_decide_eq_true Q7 | replace Q7 := of_decide_eq_false Q7)
              first
               | (exfalso; first | omega | contradiction | (cases Q7; done))
               | skip
                 refine cd_exit ?_
                 refine ex_then ?_
                 refine ex_then ?_
                 refine ex_block ?_
                 refine nx_then ?_
                 refine cd_seq ?_
                 refine cd_seq ?_
                 refine cd_region ?_
                 refine st_val (ro_assign (v := .int _ _) rfl) ?_
                 refine st_nil ?_
                 refine nx_then ?_
                 refine cd_block ?_
                 refine cd_loop (G := Nat) [2, 10, 11, 12, 13, 56, 57, 58, 59, 60, 61, 62, 63, 64, 65, 66, 67, 68, 69, 70, 71, 72, 73, 74, 75, 76, 77, 78, 79, 80, 81, 82, 83, 84, 85, 86, 87, 88, 89, 90, 91, 92, 93, 94, 95, 96, 97, 98, 99, 100, 101, 102, 103, 104, 105, 106, 107, 108, 109, 110, 111, 112, 113, 114, 115, 116, 117, 118, 119, 120, 121, 122, 123, 124, 125, 126, 127, 128] (fun k => [(9, .int .i64 (k : Nat))]) (fun k w' => k ≤ is.length ∧ Vec w' w.heap.size b l ∧ Blk w' b1 25 #[.slice A l.length ca, .slice B is.length cb] ∧ From w w') (fun k => is.length - k) (0) ⟨rfl, trivial⟩ ?_ ?_
                 · exact ⟨Nat.zero_le _, hv.from_ From.rfl_, hP1.from_ From.rfl_, hB⟩
                 rintro k ρ17 w17 ⟨hk, hv, hP1, hB⟩
                 refine cd_seq ?_
                 refine cd_seq ?_
                 refine cd_region ?_
                 refine st_val (ro_move (v := .int _ _) rfl) ?_
                 refine st_val (ro_fieldAddr BitsLaw2_f25_1 rfl) ?_
                 refine st_val (ro_load BitsLaw2_g23 rfl (by first | (first | exact (hP1.from_ From.rfl_).whole | exact (hP1.from_ From.rfl_).rd 0 rfl | exact (hP1.from_ From.rfl_).rd 1 rfl) | (first | exact (hk1.from_ From.rfl_).whole | exact (hk1.from_ From.rfl_).rd 0 rfl | exact (hk1.from_ From.rfl_).rd 1 rfl))) ?_
                 refine st_val (ro_len BitsLaw2_l23 rfl) ?_
                 refine st_val (ro_lss rfl rfl) ?_
                 refine st_nil ?_
                 refine nx_then ?_
                 refine cd_cond rfl (fun Q18 => ?_) (fun Q18 => ?_)
                 · (try first | replace Q18 := bn_t Q18 | replace Q18 := bn_f Q18)
                   (try first | replace Q18 := bx_t Q18 | replace Q18 := bx_f Q18 | replace Q18 := be_t Q18 | replace Q18 := be_f Q18 | replace Q18 := of_decide_eq_true Q18 | replace Q18 := of_decide_eq_false Q18)
                   obtain ⟨bb, ob, rfl, hcb⟩ := hrB (by omega)
                   first
                    | (exfalso; first | omega | contradiction | (cases Q18; done))
                    | skip
                      refine cd_skip ?_
                      refine nx_then ?_
                      refine cd_seq ?_
                      refine cd_block ?_
                      refine cd_seq ?_
                      refine cd_region ?_
                      refine st_val (ro_assign (v := .int _ _) rfl) ?_
                      refine st_val (ro_assign (v := .bool _) rfl) ?_
                      refine st_nil ?_
                      refine nx_then ?_
                      refine cd_cut (G := Unit) [63, 64, 65, 66, 67, 68, 69, 70, 71, 72, 73, 74, 75, 76, 77, 78, 79] (fun _ => [(10, .int .i64 (selP l false is[k])), (11, .bool (selO l false is[k]))]) (fun _ w' => Vec w' w.heap.size b l ∧ Blk w' b1 25 #[.slice A l.length ca, .slice (some ⟨bb, ob, none⟩) is.length cb] ∧ From w w') ?_ ?_
                      · refine cd_seq ?_
                        refine cd_region ?_
                        refine st_val (ro_fieldAddr BitsLaw2_f25_1 rfl) ?_
                        refine st_val (ro_load BitsLaw2_g23 rfl (by first | (first | exact (hP1.from_ From.rfl_).whole | exact (hP1.from_ From.rfl_).rd 0 rfl | exact (hP1.from_ From.rfl_).rd 1 rfl) | (first | exact (hk1.from_ From.rfl_).whole | exact (hk1.from_ From.rfl_).rd 0 rfl | exact (hk1.from_ From.rfl_).rd 1 rfl))) ?_
                        refine st_val (ro_move (v := .int _ _) rfl) ?_
                        refine st_val (ro_indexAddr1 BitsLaw2_e23 rfl rfl (by omega)) ?_
                        refine st_val (ro_load BitsLaw2_g3 rfl (by exact cellF hB (hcb k (by omega)))) ?_
                        refine st_val (ro_geq rfl rfl) ?_
                        refine st_nil ?_
                        refine nx_then ?_
                        refine cd_cond rfl (fun Q19 => ?_) (fun Q19 => ?_)
                        · (try first | replace Q19 := bn_t Q19 | replace Q19 := bn_f Q19)
                          (try first | replace Q19 := bx_t Q19 | replace Q19 := bx_f Q19 | replace Q19 := be_t Q19 | replace Q19 := be_f Q19 | replace Q19 := of_decide_eq_true Q19 | replace Q19 := of_decide_eq_false Q19)
                          have hik := hB64 is[k] (List.getElem_mem _)
                          have hq10 : selP l false is[k] = selP l false is[k] := rfl
                          have hq11 : selO l false is[k] = selO l false is[k] := rfl
                          first
                           | (exfalso; first | omega | contradiction | (cases Q19; done))
                           | skip
                             apply cd_drawn 13 [(70, eqp _), (71, eqp _), (72, eqp _), (73, eqp _), (74, eqp _), (75, eqp _), (76, eqp _), (77, eqp _), (69, eqp _), (78, eqp _), (79, eqp _), (10, eqp _), (11, eqp _)] (by kernel_rfl) (by kernel_rfl) ⟨eqp_mono _, eqp_mono _, eqp_mono _, eqp_mono _, eqp_mono _, eqp_mono _, eqp_mono _, eqp_mono _, eqp_mono _, eqp_mono _, eqp_mono _, eqp_mono _, eqp_mono _, trivial⟩
                             case hop =>
                              refine ⟨?_, ?_⟩
                              · intro w21 D21
                                show OpOK _ _ _ _ _ _ _
                                exact ok_pure (ro_fieldAddr BitsLaw2_f25_0 rfl) rfl
                              refine ⟨?_, ?_⟩
                              · intro w22 D22
                                rintro _ rfl
                                show OpOK _ _ _ _ _ _ _
                                exact ok_pure (ro_load BitsLaw2_g22 rfl (by first | (first | exact (hP1.from_ (From.rfl_.next D22)).whole | exact (hP1.from_ (From.rfl_.next D22)).rd 0 rfl | exact (hP1.from_ (From.rfl_.next D22)).rd 1 rfl) | (first | exact (hk1.from_ (From.rfl_.next D22)).whole | exact (hk1.from_ (From.rfl_.next D22)).rd 0 rfl | exact (hk1.from_ (From.rfl_.next D22)).rd 1 rfl))) rfl
                              refine ⟨?_, ?_⟩
                              · intro w23 D23
                                show OpOK _ _ _ _ _ _ _
                                exact ok_pure (ro_fieldAddr BitsLaw2_f25_1 rfl) rfl
                              refine ⟨?_, ?_⟩
                              · intro w24 D24
                                rintro _ rfl
                                show OpOK _ _ _ _ _ _ _
                                exact ok_pure (ro_load BitsLaw2_g23 rfl (by first | (first | exact (hP1.from_ (From.rfl_.next D24)).whole | exact (hP1.from_ (From.rfl_.next D24)).rd 0 rfl | exact (hP1.from_ (From.rfl_.next D24)).rd 1 rfl) | (first | exact (hk1.from_ (From.rfl_.next D24)).whole | exact (hk1.from_ (From.rfl_.next D24)).rd 0 rfl | exact (hk1.from_ (From.rfl_.next D24)).rd 1 rfl))) rfl
                              refine ⟨?_, ?_⟩
                              · intro w25 D25
                                show OpOK _ _ _ _ _ _ _
                                exact ok_pure (ro_move (v := .int _ _) rfl) rfl
                              refine ⟨?_, ?_⟩
                              · intro w26 D26
                                rintro _ rfl _ rfl
                                show OpOK _ _ _ _ _ _ _
                                exact ok_pure (ro_indexAddr1 BitsLaw2_e23 rfl rfl (by omega)) rfl
                              refine ⟨?_, ?_⟩
                              · intro w27 D27
                                rintro _ rfl
                                show OpOK _ _ _ _ _ _ _
                                exact ok_pure (ro_load BitsLaw2_g3 rfl (by exact cellF (hB.next D27) (hcb k (by omega)))) rfl
                              refine ⟨?_, ?_⟩
                              · intro w28 D28
                                rintro _ rfl _ rfl
                                show OpOK _ _ _ _ _ _ _
                                refine ok_call BitsLaw2_k11 ((refSelect_rt2 A ca is[k] true l _ (hr.from_ (hB.next D28)) (by omega) (by omega)).mono ?_)
                                rintro v _ ⟨rfl, rfl⟩; exact ⟨From.rfl_, rfl⟩
                              refine ⟨?_, ?_⟩
                              · intro w29 D29
                                rintro _ rfl
                                show OpOK _ _ _ _ _ _ _
                                exact ok_pure (ro_move (v := .tuple _) rfl) rfl
                              refine ⟨?_, ?_⟩
                              · intro w30 D30
                                rintro _ rfl
                                show OpOK _ _ _ _ _ _ _
                                exact ok_pure (ro_extract rfl rfl) rfl
                              refine ⟨?_, ?_⟩
                              · intro w31 D31
                                rintro _ rfl
                                show OpOK _ _ _ _ _ _ _
                                exact ok_pure (ro_extract rfl rfl) rfl
                              refine ⟨?_, ?_⟩
                              · intro w32 D32
                                rintro _ rfl
                                show OpOK _ _ _ _ _ _ _
                                exact ok_pure (ro_assign (v := .int _ _) rfl) rfl
                              refine ⟨?_, ?_⟩
                              · intro w33 D33
                                rintro _ rfl
                                show OpOK _ _ _ _ _ _ _
                                exact ok_pure (ro_assign (v := .bool _) rfl) rfl
                              exact trivial
                             case hend =>
                              intro w34 D34
                              rintro _ rfl _ rfl _ rfl _ rfl _ rfl _ rfl _ rfl _ rfl _ rfl _ rfl _ rfl _ rfl _ rfl
                              show St _ _ _ _ _ _ _
                              refine st_nil ?_
                              refine nx_cut (()) ⟨(int_eq hq10), (congrArg Value.bool hq11), trivial⟩ (by (iterate 19 refine agr_cons rfl ?_); exact agr_rfl) ?_
                              exact ⟨hv.from_ (From.rfl_.next D34), hP1.from_ (From.rfl_.next D34), (hB.next D34)⟩
                        · (try first | replace Q19 := bn_t Q19 | replace Q19 := bn_f Q19)
                          (try first | replace Q19 := bx_t Q19 | replace Q19 := bx_f Q19 | replace Q19 := be_t Q19 | replace Q19 := be_f Q19 | replace Q19 := of_decide_eq_true Q19 | replace Q19 := of_decide_eq_false Q19)
                          have hq11 : false = selO l false is[k] := (decide_eq_false (by omega)).symm
                          have hq10 : 0 = selP l false is[k] := (selP_no hq11.symm).symm
                          first
                           | (exfalso; first | omega | contradiction | (cases Q19; done))
                           | skip
                             refine cd_skip ?_
                             refine nx_cut (()) ⟨(int_eq hq10), (congrArg Value.bool hq11), trivial⟩ (by (iterate 6 refine agr_cons rfl ?_); exact agr_rfl) ?_
                             exact ⟨hv.from_ From.rfl_, hP1.from_ From.rfl_, hB⟩
                      · rintro ⟨⟩ ρ35 w35 ⟨hv, hP1, hB⟩
                        refine cd_seq ?_
                        refine cd_region ?_
                        refine st_val (ro_move (v := .pointer _) rfl) ?_
                        refine st_val (ro_fieldAddr BitsLaw2_f25_1 rfl) ?_
                        refine st_val (ro_load BitsLaw2_g23 rfl (by first | (first | exact (hP1.from_ From.rfl_).whole | exact (hP1.from_ From.rfl_).rd 0 rfl | exact (hP1.from_ From.rfl_).rd 1 rfl) | (first | exact (hk1.from_ From.rfl_).whole | exact (hk1.from_ From.rfl_).rd 0 rfl | exact (hk1.from_ From.rfl_).rd 1 rfl))) ?_
                        refine st_val (ro_move (v := .int _ _) rfl) ?_
                        refine st_val (ro_indexAddr1 BitsLaw2_e23 rfl rfl (by omega)) ?_
                        refine st_val (ro_load BitsLaw2_g3 rfl (by exact cellF hB (hcb k (by omega)))) ?_
                        refine st_call BitsLaw2_k8 (sel_rt _ b l _ (hv.from_ From.rfl_) (hT.from_ hB) is[k]) ?_
                        rintro v87 w36 ⟨rfl, E87⟩
                        have hT87 : (selO l false is[k] = true → selE l false is[k] = 0 ∧ selP l false is[k] = selP l false is[k]) ∧ (selO l false is[k] = false → selE l false is[k] = 3 ∧ selP l false is[k] = 0) := ⟨fun h => ⟨if_pos h, rfl⟩, fun h => ⟨if_neg (by rw [h]; decide), selP_no h⟩⟩
                        refine st_val (ro_move (v := .tuple _) rfl) ?_
                        refine st_val (ro_extract rfl rfl) ?_
                        refine st_val (ro_extract rfl rfl) ?_
                        refine st_val (ro_assign (v := .int _ _) rfl) ?_
                        refine st_val (ro_assign (v := .int _ _) rfl) ?_
                        refine st_nil ?_
                        refine nx_then ?_
                        refine cd_seq ?_
                        refine cd_seq ?_
                        refine cd_region ?_
                        refine st_val (ro_move (v := .int _ _) rfl) ?_
                        refine st_val (ro_move (v := .int _ _) rfl) ?_
                        refine st_val (ro_move (v := .int _ _) rfl) ?_
                        refine st_val (ro_move (v := .bool _) rfl) ?_
                        refine st_call BitsLaw2_k12 (told_any _ _ _ _ _ hT87) ?_
                        rintro v94 w37 ⟨rfl, rfl⟩
                        refine st_val (ro_not rfl) ?_
                        refine st_nil ?_
                        refine nx_then ?_
                        refine cd_cond rfl (fun Q38 => ?_) (fun Q38 => ?_)
                        · (try first | replace Q38 := bn_t Q38 | replace Q38 := bn_f Q38)
                          (try first | replace Q38 := bx_t Q38 | replace Q38 := bx_f Q38 | replace Q38 := be_t Q38 | replace Q38 := be_f Q38 | replace Q38 := of_decide_eq_true Q38 | replace Q38 := of_decide_eq_false Q38)
                          first
                           | (exfalso; first | omega | contradiction | (cases Q38; done))
                           | skip
                             refine cd_seq ?_
                             refine cd_region ?_
                             refine st_val (ro_assign (v := .bool _) rfl) ?_
                             refine st_nil ?_
                             refine nx_then ?_
                             refine cd_ret ?_
                             refine rt_then ?_
                             refine rt_block ?_
                             refine rt_then ?_
                             refine rt_then ?_
                             refine rt_block ?_
                             refine rt_then ?_
                             refine res1 (v := .bool _) rfl rfl ?_
                             exact ⟨rfl, (hB.next E87)⟩
                        · (try first | replace Q38 := bn_t Q38 | replace Q38 := bn_f Q38)
                          (try first | replace Q38 := bx_t Q38 | replace Q38 := bx_f Q38 | replace Q38 := be_t Q38 | replace Q38 := be_f Q38 | replace Q38 := of_decide_eq_true Q38 | replace Q38 := of_decide_eq_false Q38)
                          first
                           | (exfalso; first | omega | contradiction | (cases Q38; done))
                           | skip
                             refine cd_skip ?_
                             refine nx_then ?_
                             refine cd_seq ?_
                             refine cd_region ?_
                             refine st_val (ro_assign (v := .int _ _) rfl) ?_
                             refine st_val (ro_assign (v := .bool _) rfl) ?_
                             refine st_nil ?_
                             refine nx_then ?_
                             refine cd_cut (G := Unit) [96, 97, 98, 99, 100, 101, 102, 103, 104, 105, 106, 107, 108, 109, 110, 111, 112] (fun _ => [(10, .int .i64 (selP l true is[k])), (11, .bool (selO l true is[k]))]) (fun _ w' => Vec w' w.heap.size b l ∧ Blk w' b1 25 #[.slice A l.length ca, .slice (some ⟨bb, ob, none⟩) is.length cb] ∧ From w w') ?_ ?_
                             · refine cd_seq ?_
                               refine cd_region ?_
                               refine st_val (ro_fieldAddr BitsLaw2_f25_1 rfl) ?_
                               refine st_val (ro_load BitsLaw2_g23 rfl (by first | (first | exact (hP1.from_ (From.rfl_.next E87)).whole | exact (hP1.from_ (From.rfl_.next E87)).rd 0 rfl | exact (hP1.from_ (From.rfl_.next E87)).rd 1 rfl) | (first | exact (hk1.from_ (From.rfl_.next E87)).whole | exact (hk1.from_ (From.rfl_.next E87)).rd 0 rfl | exact (hk1.from_ (From.rfl_.next E87)).rd 1 rfl))) ?_
                               refine st_val (ro_move (v := .int _ _) rfl) ?_
                               refine st_val (ro_indexAddr1 BitsLaw2_e23 rfl rfl (by omega)) ?_
                               refine st_val (ro_load BitsLaw2_g3 rfl (by exact cellF (hB.next E87) (hcb k (by omega)))) ?_
                               refine st_val (ro_geq rfl rfl) ?_
                               refine st_nil ?_
                               refine nx_then ?_
                               refine cd_cond rfl (fun Q39 => ?_) (fun Q39 => ?_)
                               · (try first | replace Q39 := bn_t Q39 | replace Q39 := bn_f Q39)
                                 (try first | replace Q39 := bx_t Q39 | replace Q39 := bx_f Q39 | replace Q39 := be_t Q39 | replace Q39 := be_f Q39 | replace Q39 := of_decide_eq_true Q39 | replace Q39 := of_decide_eq_false Q39)
                                 have hik := hB64 is[k] (List.getElem_mem _)
                                 have hq10 : selP l true is[k] = selP l true is[k] := rfl
                                 have hq11 : selO l true is[k] = selO l true is[k] := rfl
                                 first
                                  | (exfalso; first | omega | contradiction | (cases Q39; done))
                                  | skip
                                    apply cd_drawn 13 [(103, eqp _), (104, eqp _), (105, eqp _), (106, eqp _), (107, eqp _), (108, eqp _), (109, eqp _), (110, eqp _), (102, eqp _), (111, eqp _), (112, eqp _), (10, eqp _), (11, eqp _)] (by kernel_rfl) (by kernel_rfl) ⟨eqp_mono _, eqp_mono _, eqp_mono _, eqp_mono _, eqp_mono _, eqp_mono _, eqp_mono _, eqp_mono _, eqp_mono _, eqp_mono _, eqp_mono _, eqp_mono _, eqp_mono _, trivial⟩
                                    case hop =>
                                     refine ⟨?_, ?_⟩
                                     · intro w41 D41
                                       show OpOK _ _ _ _ _ _ _
                                       exact ok_pure (ro_fieldAddr BitsLaw2_f25_0 rfl) rfl
                                     refine ⟨?_, ?_⟩
                                     · intro w42 D42
                                       rintro _ rfl
                                       show OpOK _ _ _ _ _ _ _
                                       exact ok_pure (ro_load BitsLaw2_g22 rfl (by first | (first | exact (hP1.from_ ((From.rfl_.next E87).next D42)).whole | exact (hP1.from_ ((From.rfl_.next E87).next D42)).rd 0 rfl | exact (hP1.from_ ((From.rfl_.next E87).next D42)).rd 1 rfl) | (first | exact (hk1.from_ ((From.rfl_.next E87).next D42)).whole | exact (hk1.from_ ((From.rfl_.next E87).next D42)).rd 0 rfl | exact (hk1.from_ ((From.rfl_.next E87).next D42)).rd 1 rfl))) rfl
                                     refine ⟨?_, ?_⟩
                                     · intro w43 D43
                                       show OpOK _ _ _ _ _ _ _
                                       exact ok_pure (ro_fieldAddr BitsLaw2_f25_1 rfl) rfl
                                     refine ⟨?_, ?_⟩
                                     · intro w44 D44
                                       rintro _ rfl
                                       show OpOK _ _ _ _ _ _ _
                                       exact ok_pure (ro_load BitsLaw2_g23 rfl (by first | (first | exact (hP1.from_ ((From.rfl_.next E87).next D44)).whole | exact (hP1.from_ ((From.rfl_.next E87).next D44)).rd 0 rfl | exact (hP1.from_ ((From.rfl_.next E87).next D44)).rd 1 rfl) | (first | exact (hk1.from_ ((From.rfl_.next E87).next D44)).whole | exact (hk1.from_ ((From.rfl_.next E87).next D44)).rd 0 rfl | exact (hk1.from_ ((From.rfl_.next E87).next D44)).rd 1 rfl))) rfl
                                     refine ⟨?_, ?_⟩
                                     · intro w45 D45
                                       show OpOK _ _ _ _ _ _ _
                                       exact ok_pure (ro_move (v := .int _ _) rfl) rfl
                                     refine ⟨?_, ?_⟩
                                     · intro w46 D46
                                       rintro _ rfl _ rfl
                                       show OpOK _ _ _ _ _ _ _
                                       exact ok_pure (ro_indexAddr1 BitsLaw2_e23 rfl rfl (by omega)) rfl
                                     refine ⟨?_, ?_⟩
                                     · intro w47 D47
                                       rintro _ rfl
                                       show OpOK _ _ _ _ _ _ _
                                       exact ok_pure (ro_load BitsLaw2_g3 rfl (by exact cellF ((hB.next E87).next D47) (hcb k (by omega)))) rfl
                                     refine ⟨?_, ?_⟩
                                     · intro w48 D48
                                       rintro _ rfl _ rfl
                                       show OpOK _ _ _ _ _ _ _
                                       refine ok_call BitsLaw2_k11 ((refSelect_rt2 A ca is[k] false l _ (hr.from_ ((hB.next E87).next D48)) (by omega) (by omega)).mono ?_)
                                       rintro v _ ⟨rfl, rfl⟩; exact ⟨From.rfl_, rfl⟩
                                     refine ⟨?_, ?_⟩
                                     · intro w49 D49
                                       rintro _ rfl
                                       show OpOK _ _ _ _ _ _ _
                                       exact ok_pure (ro_move (v := .tuple _) rfl) rfl
                                     refine ⟨?_, ?_⟩
                                     · intro w50 D50
                                       rintro _ rfl
                                       show OpOK _ _ _ _ _ _ _
                                       exact ok_pure (ro_extract rfl rfl) rfl
                                     refine ⟨?_, ?_⟩
                                     · intro w51 D51
                                       rintro _ rfl
                                       show OpOK _ _ _ _ _ _ _
                                       exact ok_pure (ro_extract rfl rfl) rfl
                                     refine ⟨?_, ?_⟩
                                     · intro w52 D52
                                       rintro _ rfl
                                       show OpOK _ _ _ _ _ _ _
                                       exact ok_pure (ro_assign (v := .int _ _) rfl) rfl
                                     refine ⟨?_, ?_⟩
                                     · intro w53 D53
                                       rintro _ rfl
                                       show OpOK _ _ _ _ _ _ _
                                       exact ok_pure (ro_assign (v := .bool _) rfl) rfl
                                     exact trivial
                                    case hend =>
                                     intro w54 D54
                                     rintro _ rfl _ rfl _ rfl _ rfl _ rfl _ rfl _ rfl _ rfl _ rfl _ rfl _ rfl _ rfl _ rfl
                                     show St _ _ _ _ _ _ _
                                     refine st_nil ?_
                                     refine nx_cut (()) ⟨(int_eq hq10), (congrArg Value.bool hq11), trivial⟩ (by (iterate 19 refine agr_cons rfl ?_); exact agr_rfl) ?_
                                     exact ⟨hv.from_ ((From.rfl_.next E87).next D54), hP1.from_ ((From.rfl_.next E87).next D54), ((hB.next E87).next D54)⟩
                               · (try first | replace Q39 := bn_t Q39 | replace Q39 := bn_f Q39)
                                 (try first | replace Q39 := bx_t Q39 | replace Q39 := bx_f Q39 | replace Q39 := be_t Q39 | replace Q39 := be_f Q39 | replace Q39 := of_decide_eq_true Q39 | replace Q39 := of_decide_eq_false Q39)
                                 have hq11 : false = selO l true is[k] := (decide_eq_false (by omega)).symm
                                 have hq10 : 0 = selP l true is[k] := (selP_no hq11.symm).symm
                                 first
                                  | (exfalso; first | omega | contradiction | (cases Q39; done))
                                  | skip
                                    refine cd_skip ?_
                                    refine nx_cut (()) ⟨(int_eq hq10), (congrArg Value.bool hq11), trivial⟩ (by (iterate 6 refine agr_cons rfl ?_); exact agr_rfl) ?_
                                    exact ⟨hv.from_ (From.rfl_.next E87), hP1.from_ (From.rfl_.next E87), (hB.next E87)⟩
                             · rintro ⟨⟩ ρ55 w55 ⟨hv, hP1, hB⟩
                               refine cd_seq ?_
                               refine cd_region ?_
                               refine st_val (ro_move (v := .pointer _) rfl) ?_
                               refine st_val (ro_fieldAddr BitsLaw2_f25_1 rfl) ?_
                               refine st_val (ro_load BitsLaw2_g23 rfl (by first | (first | exact (hP1.from_ From.rfl_).whole | exact (hP1.from_ From.rfl_).rd 0 rfl | exact (hP1.from_ From.rfl_).rd 1 rfl) | (first | exact (hk1.from_ From.rfl_).whole | exact (hk1.from_ From.rfl_).rd 0 rfl | exact (hk1.from_ From.rfl_).rd 1 rfl))) ?_
                               refine st_val (ro_move (v := .int _ _) rfl) ?_
                               refine st_val (ro_indexAddr1 BitsLaw2_e23 rfl rfl (by omega)) ?_
                               refine st_val (ro_load BitsLaw2_g3 rfl (by exact cellF hB (hcb k (by omega)))) ?_
                               refine st_call BitsLaw2_k9 (sel0_rt _ b l _ (hv.from_ From.rfl_) (hT.from_ hB) is[k]) ?_
                               rintro v120 w56 ⟨rfl, E120⟩
                               have hT120 : (selO l true is[k] = true → selE l true is[k] = 0 ∧ selP l true is[k] = selP l true is[k]) ∧ (selO l true is[k] = false → selE l true is[k] = 3 ∧ selP l true is[k] = 0) := ⟨fun h => ⟨if_pos h, rfl⟩, fun h => ⟨if_neg (by rw [h]; decide), selP_no h⟩⟩
                               refine st_val (ro_move (v := .tuple _) rfl) ?_
                               refine st_val (ro_extract rfl rfl) ?_
                               refine st_val (ro_extract rfl rfl) ?_
                               refine st_val (ro_assign (v := .int _ _) rfl) ?_
                               refine st_val (ro_assign (v := .int _ _) rfl) ?_
                               refine st_nil ?_
                               refine nx_then ?_
                               refine cd_seq ?_
                               refine cd_region ?_
                               refine st_val (ro_move (v := .int _ _) rfl) ?_
                               refine st_val (ro_move (v := .int _ _) rfl) ?_
                               refine st_val (ro_move (v := .int _ _) rfl) ?_
                               refine st_val (ro_move (v := .bool _) rfl) ?_
                               refine st_call BitsLaw2_k12 (told_any _ _ _ _ _ hT120) ?_
                               rintro v127 w57 ⟨rfl, rfl⟩
                               refine st_val (ro_not rfl) ?_
                               refine st_nil ?_
                               refine nx_then ?_
                               refine cd_cond rfl (fun Q58 => ?_) (fun Q58 => ?_)
                               · (try first | replace Q58 := bn_t Q58 | replace Q58 := bn_f Q58)
                                 (try first | replace Q58 := bx_t Q58 | replace Q58 := bx_f Q58 | replace Q58 := be_t Q58 | replace Q58 := be_f Q58 | replace Q58 := of_decide_eq_true Q58 | replace Q58 := of_decide_eq_false Q58)
                                 first
                                  | (exfalso; first | omega | contradiction | (cases Q58; done))
                                  | skip
                                    refine cd_seq ?_
                                    refine cd_region ?_
                                    refine st_val (ro_assign (v := .bool _) rfl) ?_
                                    refine st_nil ?_
                                    refine nx_then ?_
                                    refine cd_ret ?_
                                    refine rt_block ?_
                                    refine rt_then ?_
                                    refine rt_then ?_
                                    refine rt_block ?_
                                    refine rt_then ?_
                                    refine res1 (v := .bool _) rfl rfl ?_
                                    exact ⟨rfl, (hB.next E120)⟩
                               · (try first | replace Q58 := bn_t Q58 | replace Q58 := bn_f Q58)
                                 (try first | replace Q58 := bx_t Q58 | replace Q58 := bx_f Q58 | replace Q58 := be_t Q58 | replace Q58 := be_f Q58 | replace Q58 := of_decide_eq_true Q58 | replace Q58 := of_decide_eq_false Q58)
                                 first
                                  | (exfalso; first | omega | contradiction | (cases Q58; done))
                                  | skip
                                    refine cd_skip ?_
                                    refine nx_block ?_
                                    refine nx_then ?_
                                    refine cd_region ?_
                                    refine st_val (ro_move (v := .int _ _) rfl) ?_
                                    refine st_val (ro_addN (b := 1) rfl rfl (by omega)) ?_
                                    refine st_val (ro_assign (v := .int _ _) rfl) ?_
                                    refine st_nil ?_
                                    refine nx_cut (k + 1) ⟨(by first | rfl | (refine int_eq ?_; omega)), trivial⟩ (by (iterate 165 refine agr_cons rfl ?_); exact agr_rfl) ⟨?_, ?_⟩
                                    · exact ⟨by omega, hv.from_ (From.rfl_.next E120), hP1.from_ (From.rfl_.next E120), (hB.next E120)⟩
                                    · omega
                 · (try first | replace Q18 := bn_t Q18 | replace Q18 := bn_f Q18)
                   (try first | replace Q18 := bx_t Q18 | replace Q18 := bx_f Q18 | replace Q18 := be_t Q18 | replace Q18 := be_f Q18 | replace Q18 := of_decide_eq_true Q18 | replace Q18 := of_decide_eq_false Q18)
                   first
                    | (exfalso; first | omega | contradiction | (cases Q18; done))
                    | skip
                      refine cd_exit ?_
                      refine ex_then ?_
                      refine ex_then ?_
                      refine ex_block ?_
                      refine nx_then ?_
                      refine cd_seq ?_
                      refine cd_region ?_
                      refine st_call BitsLaw2_k13 (wakes_any _) ?_
                      rintro v129 w59 ⟨rfl, E129⟩
                      refine st_val (ro_assign (v := .bool _) rfl) ?_
                      refine st_nil ?_
                      refine nx_then ?_
                      refine cd_ret ?_
                      refine res1 (v := .bool _) rfl rfl ?_
                      exact ⟨rfl, (hB.next E129)⟩
theorem sel1_k (base b k : Nat) (l : List Bool) (w : World) (hv : Vec w base b l) (hT : TZ w) (hk : k < rk l l.length) : Rt Tryd.prog 8 [.pointer (some ⟨b, 0, none⟩), .int .i64 (k : Nat)] w fun v w' => ∃ p : Nat, v = .tuple #[.int .i64 (p : Nat), .int .i64 0] ∧ p < l.length ∧ bt l p = true ∧ rk l p = k ∧ From w w' := by
  refine Rt.mono (sel_in base b l w hv hT k (by rw [fl_false]; exact hk)) fun v w' ⟨p, p1, p2, p3, e, hF⟩ => ⟨p, e, p1, ?_, by rw [← p3, fl_false], hF⟩
  unfold fl at p2
  cases hb : bt l p <;> simp_all
theorem sel0_k (base b k : Nat) (l : List Bool) (w : World) (hv : Vec w base b l) (hT : TZ w) (hk : k < l.length - rk l l.length) : Rt Tryd.prog 9 [.pointer (some ⟨b, 0, none⟩), .int .i64 (k : Nat)] w fun v w' => ∃ p : Nat, v = .tuple #[.int .i64 (p : Nat), .int .i64 0] ∧ p < l.length ∧ bt l p = false ∧ p - rk l p = k ∧ From w w' := by
  refine Rt.mono (sel0_in base b l w hv hT k (by rw [fl_true]; exact hk)) fun v w' ⟨p, p1, p2, p3, e, hF⟩ => ⟨p, e, p1, ?_, by rw [← p3, fl_true], hF⟩
  unfold fl at p2
  cases hb : bt l p <;> simp_all
theorem rB_at {l : List Bool} {p : Nat} (h : p ≤ l.length) : rB l (p : Int) = (rk l p : Nat) ∧ rE l (p : Int) = 0 := by
  unfold rB rE
  rw [if_pos (by omega), if_pos (by omega), Int.toNat_natCast]
  exact ⟨rfl, rfl⟩
theorem gB_at {l : List Bool} {p : Nat} (h : p < l.length) : gB l (p : Int) = bt l p ∧ gE l (p : Int) = 0 := by
  unfold gB gE
  rw [if_pos (by omega), if_pos (by omega), Int.toNat_natCast]
  exact ⟨rfl, rfl⟩
set_option maxRecDepth 100000 in
set_option maxHeartbeats 3000000 in
theorem back_law (A B : Option Addr) (ca cb : Nat) (l : List Bool) (is : List Int) (w : World) (hr : RowOf boV w A l) (hrB : RowOf iV w B is) (hB64 : ∀ x ∈ is, -9223372036854775808 ≤ x ∧ x ≤ 9223372036854775807) (hT : TZ w) :
    Rt Tryd.prog 4 [.agg #[.slice A l.length ca, .slice B is.length cb]] w (fun v w' => v = .bool true ∧ From w w') := by
  refine enter (n := 174) Tryd.func4 rfl rfl rfl ?_
  refine cd_seq ?_
  refine cd_region ?_
  refine st_box (v := .agg _) rfl ?_
  intro b1 w1 E1 hb1 hk1
  refine st_val (ro_assign (v := .bool _) rfl) ?_
  refine st_nil ?_
  refine nx_then ?_
  refine cd_seq ?_
  refine cd_seq ?_
  refine cd_region ?_
  refine st_val (ro_loadA (cs := [_, _]) BitsLaw2_g25 BitsLaw2_z25 rfl (by first | (first | exact (hP1.from_ From.rfl_).whole | exact (hP1.from_ From.rfl_).rd 0 rfl | exact (hP1.from_ From.rfl_).rd 1 rfl) | (first | exact (hk1.from_ From.rfl_).whole | exact (hk1.from_ From.rfl_).rd 0 rfl | exact (hk1.from_ From.rfl_).rd 1 rfl))) ?_
  refine st_call BitsLaw2_k6 (heavy_any A B _ ca _ cb _) ?_
  rintro v25 w2 ⟨rfl, E25⟩
  refine st_nil ?_
  refine nx_then ?_
  refine cd_cond rfl (fun Q3 => ?_) (fun Q3 => ?_)
  · (try first | replace Q3 := bn_t Q3 | replace Q3 := bn_f Q3)
    (try first | replace Q3 := bx_t Q3 | replace Q3 := bx_f Q3 | replace Q3 := be_t Q3 | replace Q3 := be_f Q3 | replace Q3 := of_decide_eq_true Q3 | replace Q3 := of_decide_eq_false Q3)
    first
     | (exfalso; first | omega | (simp only [hG72, hp60b, Bool.true_eq_false] at *; done) | (simp only [hG121, hp109b, Bool.false_eq_true] at *; done) | contradiction | (cases Q3; done))
     | skip
       refine cd_seq ?_
       refine cd_region ?_
       refine st_val (ro_assign (v := .bool _) rfl) ?_
       refine st_nil ?_
       refine nx_then ?_
       refine cd_ret ?_
       refine rt_then ?_
       refine res1 (v := .bool _) rfl rfl ?_
       exact ⟨rfl, ((From.rfl_.next E1).next E25)⟩
  · (try first | replace Q3 := bn_t Q3 | replace Q3 := bn_f Q3)
    (try first | replace Q3 := bx_t Q3 | replace Q3 := bx_f Q3 | replace Q3 := be_t Q3 | replace Q3 := be_f Q3 | replace Q3 := of_decide_eq_true Q3 | replace Q3 := of_decide_eq_false Q3)
    first
     | (exfalso; first | omega | (simp only [hG72, hp60b, Bool.true_eq_false] at *; done) | (simp only [hG121, hp109b, Bool.false_eq_true] at *; done) | contradiction | (cases Q3; done))
     | skip
       refine cd_skip ?_
       refine nx_then ?_
       refine cd_seq ?_
       refine cd_region ?_
       refine st_val (ro_loadA (cs := [_, _]) BitsLaw2_g25 BitsLaw2_z25 rfl (by first | (first | exact (hP1.from_ (From.rfl_.next E25)).whole | exact (hP1.from_ (From.rfl_.next E25)).rd 0 rfl | exact (hP1.from_ (From.rfl_.next E25)).rd 1 rfl) | (first | exact (hk1.from_ (From.rfl_.next E25)).whole | exact (hk1.from_ (From.rfl_.next E25)).rd 0 rfl | exact (hk1.from_ (From.rfl_.next E25)).rd 1 rfl))) ?_
       have hz27 := (((From.rfl_.next E1).next E25)).size
       have hrkl := rk_le l l.length
       refine st_call BitsLaw2_k7 (made_rt A B ca _ cb l _ (hr.from_ ((From.rfl_.next E1).next E25)) (by omega)) ?_
       rintro v27 w4 ⟨b, rfl, hv, E27⟩
       replace hv := hv.le hz27
       replace hk1 := hk1.from_ ((From.rfl_.next E25).next E27)
       refine st_val (ro_assign (v := .pointer _) rfl) ?_
       refine st_nil ?_
       refine nx_then ?_
       refine cd_seq ?_
       refine cd_seq ?_
       refine cd_region ?_
       refine st_val (ro_move (v := .pointer _) rfl) ?_
       refine st_val (ro_eqlNil BitsLaw2_p27 rfl rfl) ?_
       refine st_nil ?_
       refine nx_then ?_
       refine cd_cond rfl (fun Q5 => ?_) (fun Q5 => ?_)
       · (try first | replace Q5 := bn_t Q5 | replace Q5 := bn_f Q5)
         (try first | replace Q5 := bx_t Q5 | replace Q5 := bx_f Q5 | replace Q5 := be_t Q5 | replace Q5 := be_f Q5 | replace Q5 := of_decide_eq_true Q5 | replace Q5 := of_decide_eq_false Q5)
         first
          | (exfalso; first | omega | (simp only [hG72, hp60b, Bool.true_eq_false] at *; done) | (simp only [hG121, hp109b, Bool.false_eq_true] at *; done) | contradiction | (cases Q5; done))
          | skip
            refine cd_seq ?_
            refine cd_region ?_
            refine st_val (ro_assign (v := .bool _) rfl) ?_
            refine st_nil ?_
            refine nx_then ?_
            refine cd_ret ?_
            refine rt_then ?_
            refine res1 (v := .bool _) rfl rfl ?_
            exact ⟨rfl, (((From.rfl_.next E1).next E25).next E27)⟩
       · (try first | replace Q5 := bn_t Q5 | replace Q5 := bn_f Q5)
         (try first | replace Q5 := bx_t Q5 | replace Q5 := bx_f Q5 | replace Q5 := be_t Q5 | replace Q5 := be_f Q5 | replace Q5 := of_decide_eq_true Q5 | replace Q5 := of_decide_eq_false Q5)
         first
          | (exfalso; first | omega | (simp only [hG72, hp60b, Bool.true_eq_false] at *; done) | (simp only [hG121, hp109b, Bool.false_eq_true] at *; done) | contradiction | (cases Q5; done))
          | skip
            refine cd_skip ?_
            refine nx_then ?_
            refine cd_seq ?_
            refine cd_region ?_
            refine st_val (ro_move (v := .pointer _) rfl) ?_
            refine st_val (ro_fieldAddr BitsLaw2_f25_0 rfl) ?_
            refine st_val (ro_load BitsLaw2_g22 rfl (by first | (first | exact (hP1.from_ From.rfl_).whole | exact (hP1.from_ From.rfl_).rd 0 rfl | exact (hP1.from_ From.rfl_).rd 1 rfl) | (first | exact (hk1.from_ From.rfl_).whole | exact (hk1.from_ From.rfl_).rd 0 rfl | exact (hk1.from_ From.rfl_).rd 1 rfl))) ?_
            refine st_val (ro_len BitsLaw2_l22 rfl) ?_
            refine st_call BitsLaw2_k14 (rank_rt _ b (l.length : Nat) l _ (hv.from_ From.rfl_)) ?_
            rintro v35 w6 ⟨rfl, E35⟩
            refine st_val (ro_move (v := .tuple _) rfl) ?_
            refine st_val (ro_extract rfl rfl) ?_
            refine st_spell (t := 36) (v := .int _ _) (v' := .int .i64 ((rk l l.length : Nat) : Int)) rfl (by rw [(rB_at (Nat.le_refl l.length)).1]) ?_
            refine st_val (ro_extract rfl rfl) ?_
            refine st_spell (t := 37) (v := .int _ _) (v' := .int .i64 0) rfl (by rw [(rB_at (Nat.le_refl l.length)).2]) ?_
            refine st_val (ro_assign (v := .int _ _) rfl) ?_
            refine st_val (ro_assign (v := .int _ _) rfl) ?_
            refine st_nil ?_
            refine nx_then ?_
            refine cd_seq ?_
            refine cd_seq ?_
            refine cd_region ?_
            refine st_val (ro_move (v := .int _ _) rfl) ?_
            refine st_call BitsLaw2_k10 (num_any _ _) ?_
            rintro v39 w7 ⟨rfl, rfl⟩
            refine st_val (ro_neq rfl rfl) ?_
            refine st_val (ro_move (v := .bool _) rfl) ?_
            refine st_split (t := 41) rfl (fun Q8 => ?_) (fun Q8 => ?_)
            · (try first | replace Q8 := bn_t Q8 | replace Q8 := bn_f Q8)
              (try first | replace Q8 := bx_t Q8 | replace Q8 := bx_f Q8 | replace Q8 := be_t Q8 | replace Q8 := be_f Q8 | replace Q8 := of_decide_eq_true Q8 | replace Q8 := of_decide_eq_false Q8)
              first
               | (exfalso; first | omega | (simp only [hG72, hp60b, Bool.true_eq_false] at *; done) | (simp only [hG121, hp109b, Bool.false_eq_true] at *; done) | contradiction | (cases Q8; done))
               | skip
                 refine st_gno rfl rfl ?_
                 refine st_gno rfl rfl ?_
                 refine st_val (ro_pickT (v := .bool _) rfl rfl) ?_
                 refine st_val (ro_move (v := .bool _) rfl) ?_
                 refine st_gno rfl rfl ?_
                 refine st_gno rfl rfl ?_
                 refine st_gno rfl rfl ?_
                 refine st_gno rfl rfl ?_
                 refine st_gno rfl rfl ?_
                 refine st_val (ro_pickT (v := .bool _) rfl rfl) ?_
                 refine st_nil ?_
                 refine nx_then ?_
                 refine cd_condT rfl ?_
                 refine cd_seq ?_
                 refine cd_region ?_
                 refine st_val (ro_assign (v := .bool _) rfl) ?_
                 refine st_nil ?_
                 refine nx_then ?_
                 refine cd_ret ?_
                 refine rt_then ?_
                 refine res1 (v := .bool _) rfl rfl ?_
                 exact ⟨rfl, ((((From.rfl_.next E1).next E25).next E27).next E35)⟩
            · (try first | replace Q8 := bn_t Q8 | replace Q8 := bn_f Q8)
              (try first | replace Q8 := bx_t Q8 | replace Q8 := bx_f Q8 | replace Q8 := be_t Q8 | replace Q8 := be_f Q8 | replace Q8 := of_decide_eq_true Q8 | replace Q8 := of_decide_eq_false Q8)
              first
               | (exfalso; first | omega | (simp only [hG72, hp60b, Bool.true_eq_false] at *; done) | (simp only [hG121, hp109b, Bool.false_eq_true] at *; done) | contradiction | (cases Q8; done))
               | skip
                 refine st_unguard rfl ?_
                 refine st_val (ro_move (v := .int _ _) rfl) ?_
                 refine st_unguard rfl ?_
                 refine st_val (ro_lss rfl rfl) ?_
                 refine st_val (ro_pickF (v := .bool _) rfl rfl) ?_
                 refine st_val (ro_move (v := .bool _) rfl) ?_
                 refine st_split (t := 45) rfl (fun Q9 => ?_) (fun Q9 => ?_)
                 · (try first | replace Q9 := bn_t Q9 | replace Q9 := bn_f Q9)
                   (try first | replace Q9 := bx_t Q9 | replace Q9 := bx_f Q9 | replace Q9 := be_t Q9 | replace Q9 := be_f Q9 | replace Q9 := of_decide_eq_true Q9 | replace Q9 := of_decide_eq_false Q9)
                   first
                    | (exfalso; first | omega | (simp only [hG72, hp60b, Bool.true_eq_false] at *; done) | (simp only [hG121, hp109b, Bool.false_eq_true] at *; done) | contradiction | (cases Q9; done))
                    | skip
                      refine st_gno rfl rfl ?_
                      refine st_gno rfl rfl ?_
                      refine st_gno rfl rfl ?_
                      refine st_gno rfl rfl ?_
                      refine st_gno rfl rfl ?_
                      refine st_val (ro_pickT (v := .bool _) rfl rfl) ?_
                      refine st_nil ?_
                      refine nx_then ?_
                      refine cd_condT rfl ?_
                      refine cd_seq ?_
                      refine cd_region ?_
                      refine st_val (ro_assign (v := .bool _) rfl) ?_
                      refine st_nil ?_
                      refine nx_then ?_
                      refine cd_ret ?_
                      refine rt_then ?_
                      refine res1 (v := .bool _) rfl rfl ?_
                      exact ⟨rfl, ((((From.rfl_.next E1).next E25).next E27).next E35)⟩
                 · (try first | replace Q9 := bn_t Q9 | replace Q9 := bn_f Q9)
                   (try first | replace Q9 := bx_t Q9 | replace Q9 := bx_f Q9 | replace Q9 := be_t Q9 | replace Q9 := be_f Q9 | replace Q9 := of_decide_eq_true Q9 | replace Q9 := of_decide_eq_false Q9)
                   first
                    | (exfalso; first | omega | (simp only [hG72, hp60b, Bool.true_eq_false] at *; done) | (simp only [hG121, hp109b, Bool.false_eq_true] at *; done) | contradiction | (cases Q9; done))
                    | skip
                      refine st_unguard rfl ?_
                      refine st_val (ro_move (v := .int _ _) rfl) ?_
                      refine st_unguard rfl ?_
                      refine st_val (ro_fieldAddr BitsLaw2_f25_0 rfl) ?_
                      refine st_unguard rfl ?_
                      refine st_val (ro_load BitsLaw2_g22 rfl (by first | (first | exact (hP1.from_ (From.rfl_.next E35)).whole | exact (hP1.from_ (From.rfl_.next E35)).rd 0 rfl | exact (hP1.from_ (From.rfl_.next E35)).rd 1 rfl) | (first | exact (hk1.from_ (From.rfl_.next E35)).whole | exact (hk1.from_ (From.rfl_.next E35)).rd 0 rfl | exact (hk1.from_ (From.rfl_.next E35)).rd 1 rfl))) ?_
                      refine st_unguard rfl ?_
                      refine st_val (ro_len BitsLaw2_l22 rfl) ?_
                      refine st_unguard rfl ?_
                      refine st_val (ro_gtr rfl rfl) ?_
                      refine st_val (ro_pickF (v := .bool _) rfl rfl) ?_
                      refine st_nil ?_
                      refine nx_then ?_
                      refine cd_cond rfl (fun Q10 => ?_) (fun Q10 => ?_)
                      · (try first | replace Q10 := bn_t Q10 | replace Q10 := bn_f Q10)
                        (try first | replace Q10 := bx_t Q10 | replace Q10 := bx_f Q10 | replace Q10 := be_t Q10 | replace Q10 := be_f Q10 | replace Q10 := of_decide_eq_true Q10 | replace Q10 := of_decide_eq_false Q10)
                        first
                         | (exfalso; first | omega | (simp only [hG72, hp60b, Bool.true_eq_false] at *; done) | (simp only [hG121, hp109b, Bool.false_eq_true] at *; done) | contradiction | (cases Q10; done))
                         | skip
                           refine cd_seq ?_
                           refine cd_region ?_
                           refine st_val (ro_assign (v := .bool _) rfl) ?_
                           refine st_nil ?_
                           refine nx_then ?_
                           refine cd_ret ?_
                           refine rt_then ?_
                           refine res1 (v := .bool _) rfl rfl ?_
                           exact ⟨rfl, ((((From.rfl_.next E1).next E25).next E27).next E35)⟩
                      · (try first | replace Q10 := bn_t Q10 | replace Q10 := bn_f Q10)
                        (try first | replace Q10 := bx_t Q10 | replace Q10 := bx_f Q10 | replace Q10 := be_t Q10 | replace Q10 := be_f Q10 | replace Q10 := of_decide_eq_true Q10 | replace Q10 := of_decide_eq_false Q10)
                        first
                         | (exfalso; first | omega | (simp only [hG72, hp60b, Bool.true_eq_false] at *; done) | (simp only [hG121, hp109b, Bool.false_eq_true] at *; done) | contradiction | (cases Q10; done))
                         | skip
                           refine cd_skip ?_
                           refine nx_then ?_
                           refine cd_seq ?_
                           refine cd_seq ?_
                           refine cd_region ?_
                           refine st_val (ro_assign (v := .int _ _) rfl) ?_
                           refine st_nil ?_
                           refine nx_then ?_
                           refine cd_block ?_
                           refine cd_loop (G := Nat) [2, 7, 8, 9, 10, 11, 12, 52, 53, 54, 55, 56, 57, 58, 59, 60, 61, 62, 63, 64, 65, 66, 67, 68, 69, 70, 71, 72, 73, 74, 75, 76, 77, 78, 79, 80, 81, 82, 83, 84, 85, 86, 87, 88, 89, 90, 91, 92, 93, 94, 95, 96] (fun k => [(6, .int .i64 (k : Nat))]) (fun k w' => k ≤ rk l l.length ∧ Vec w' w.heap.size b l ∧ Blk w' b1 25 #[.slice A l.length ca, .slice B is.length cb] ∧ From w w') (fun k => rk l l.length - k) (0) ⟨rfl, trivial⟩ ?_ ?_
                           · exact ⟨Nat.zero_le _, hv.from_ (From.rfl_.next E35), hk1.from_ (From.rfl_.next E35), ((((From.rfl_.next E1).next E25).next E27).next E35)⟩
                           rintro k ρ11 w11 ⟨hk, hv, hP1, hB⟩
                           refine cd_seq ?_
                           refine cd_seq ?_
                           refine cd_region ?_
                           refine st_val (ro_move (v := .int _ _) rfl) ?_
                           refine st_val (ro_move (v := .int _ _) rfl) ?_
                           refine st_val (ro_lss rfl rfl) ?_
                           refine st_nil ?_
                           refine nx_then ?_
                           refine cd_cond rfl (fun Q12 => ?_) (fun Q12 => ?_)
                           · (try first | replace Q12 := bn_t Q12 | replace Q12 := bn_f Q12)
                             (try first | replace Q12 := bx_t Q12 | replace Q12 := bx_f Q12 | replace Q12 := be_t Q12 | replace Q12 := be_f Q12 | replace Q12 := of_decide_eq_true Q12 | replace Q12 := of_decide_eq_false Q12)
                             first
                              | (exfalso; first | omega | (simp only [hG72, hp60b, Bool.true_eq_false] at *; done) | (simp only [hG121, hp109b, Bool.false_eq_true] at *; done) | contradiction | (cases Q12; done))
                              | skip
                                refine cd_skip ?_
                                refine nx_then ?_
                                refine cd_seq ?_
                                refine cd_block ?_
                                refine cd_seq ?_
                                refine cd_region ?_
                                refine st_val (ro_move (v := .pointer _) rfl) ?_
                                refine st_val (ro_move (v := .int _ _) rfl) ?_
                                refine st_call BitsLaw2_k8 (sel1_k _ b k l _ (hv.from_ From.rfl_) (hT.from_ hB) (by omega)) ?_
                                rintro v60 w13 ⟨p60, rfl, hp60a, hp60b, hp60c, E60⟩
                                obtain ⟨hR60, hE60⟩ := rB_at (l := l) (p := p60) (by omega)
                                obtain ⟨hG72, hE72⟩ := gB_at (l := l) (p := p60) (by omega)
                                refine st_val (ro_move (v := .tuple _) rfl) ?_
                                refine st_val (ro_extract rfl rfl) ?_
                                refine st_val (ro_extract rfl rfl) ?_
                                refine st_val (ro_assign (v := .int _ _) rfl) ?_
                                refine st_val (ro_assign (v := .int _ _) rfl) ?_
                                refine st_nil ?_
                                refine nx_then ?_
                                refine cd_seq ?_
                                refine cd_region ?_
                                refine st_val (ro_move (v := .pointer _) rfl) ?_
                                refine st_val (ro_move (v := .int _ _) rfl) ?_
                                refine st_call BitsLaw2_k14 (rank_rt _ b (p60 : Nat) l _ (hv.from_ (From.rfl_.next E60))) ?_
                                rintro v66 w14 ⟨rfl, E66⟩
                                refine st_val (ro_move (v := .tuple _) rfl) ?_
                                refine st_val (ro_extract rfl rfl) ?_
                                refine st_val (ro_extract rfl rfl) ?_
                                refine st_val (ro_assign (v := .int _ _) rfl) ?_
                                refine st_val (ro_assign (v := .int _ _) rfl) ?_
                                refine st_nil ?_
                                refine nx_then ?_
                                refine cd_seq ?_
                                refine cd_region ?_
                                refine st_val (ro_move (v := .pointer _) rfl) ?_
                                refine st_val (ro_move (v := .int _ _) rfl) ?_
                                refine st_call BitsLaw2_k15 (get_rt _ b (p60 : Nat) l _ (hv.from_ ((From.rfl_.next E60).next E66))) ?_
                                rintro v72 w15 ⟨rfl, rfl⟩
                                refine st_val (ro_move (v := .tuple _) rfl) ?_
                                refine st_val (ro_extract rfl rfl) ?_
                                refine st_val (ro_extract rfl rfl) ?_
                                refine st_val (ro_assign (v := .bool _) rfl) ?_
                                refine st_val (ro_assign (v := .int _ _) rfl) ?_
                                refine st_nil ?_
                                refine nx_then ?_
                                refine cd_seq ?_
                                refine cd_region ?_
                                refine st_val (ro_move (v := .int _ _) rfl) ?_
                                refine st_call BitsLaw2_k10 (num_any _ _) ?_
                                rintro v76 w16 ⟨rfl, rfl⟩
                                refine st_val (ro_neq rfl rfl) ?_
                                refine st_val (ro_move (v := .bool _) rfl) ?_
                                refine st_split (t := 78) rfl (fun Q17 => ?_) (fun Q17 => ?_)
                                · (try first | replace Q17 := bn_t Q17 | replace Q17 := bn_f Q17)
                                  (try first | replace Q17 := bx_t Q17 | replace Q17 := bx_f Q17 | replace Q17 := be_t Q17 | replace Q17 := be_f Q17 | replace Q17 := of_decide_eq_true Q17 | replace Q17 := of_decide_eq_false Q17)
                                  first
                                   | (exfalso; first | omega | (simp only [hG72, hp60b, Bool.true_eq_false] at *; done) | (simp only [hG121, hp109b, Bool.false_eq_true] at *; done) | contradiction | (cases Q17; done))
                                   | skip
                                     refine st_gno rfl rfl ?_
                                     refine st_gno rfl rfl ?_
                                     refine st_gno rfl rfl ?_
                                     refine st_val (ro_pickT (v := .bool _) rfl rfl) ?_
                                     refine st_val (ro_move (v := .bool _) rfl) ?_
                                     refine st_gno rfl rfl ?_
                                     refine st_gno rfl rfl ?_
                                     refine st_gno rfl rfl ?_
                                     refine st_val (ro_pickT (v := .bool _) rfl rfl) ?_
                                     refine st_val (ro_move (v := .bool _) rfl) ?_
                                     refine st_gno rfl rfl ?_
                                     refine st_gno rfl rfl ?_
                                     refine st_gno rfl rfl ?_
                                     refine st_val (ro_pickT (v := .bool _) rfl rfl) ?_
                                     refine st_val (ro_move (v := .bool _) rfl) ?_
                                     refine st_gno rfl rfl ?_
                                     refine st_gno rfl rfl ?_
                                     refine st_val (ro_pickT (v := .bool _) rfl rfl) ?_
                                     refine st_nil ?_
                                     refine nx_then ?_
                                     refine cd_condT rfl ?_
                                     refine cd_seq ?_
                                     refine cd_region ?_
                                     refine st_val (ro_assign (v := .bool _) rfl) ?_
                                     refine st_nil ?_
                                     refine nx_then ?_
                                     refine cd_ret ?_
                                     refine rt_block ?_
                                     refine rt_then ?_
                                     refine rt_then ?_
                                     refine rt_block ?_
                                     refine rt_then ?_
                                     refine res1 (v := .bool _) rfl rfl ?_
                                     exact ⟨rfl, ((hB.next E60).next E66)⟩
                                · (try first | replace Q17 := bn_t Q17 | replace Q17 := bn_f Q17)
                                  (try first | replace Q17 := bx_t Q17 | replace Q17 := bx_f Q17 | replace Q17 := be_t Q17 | replace Q17 := be_f Q17 | replace Q17 := of_decide_eq_true Q17 | replace Q17 := of_decide_eq_false Q17)
                                  first
                                   | (exfalso; first | omega | (simp only [hG72, hp60b, Bool.true_eq_false] at *; done) | (simp only [hG121, hp109b, Bool.false_eq_true] at *; done) | contradiction | (cases Q17; done))
                                   | skip
                                     refine st_unguard rfl ?_
                                     refine st_val (ro_move (v := .int _ _) rfl) ?_
                                     refine st_unguard rfl ?_
                                     refine st_call BitsLaw2_k10 (num_any _ _) ?_
                                     rintro v80 w18 ⟨rfl, rfl⟩
                                     refine st_unguard rfl ?_
                                     refine st_val (ro_neq rfl rfl) ?_
                                     refine st_val (ro_pickF (v := .bool _) rfl rfl) ?_
                                     refine st_val (ro_move (v := .bool _) rfl) ?_
                                     refine st_split (t := 83) rfl (fun Q19 => ?_) (fun Q19 => ?_)
                                     · (try first | replace Q19 := bn_t Q19 | replace Q19 := bn_f Q19)
                                       (try first | replace Q19 := bx_t Q19 | replace Q19 := bx_f Q19 | replace Q19 := be_t Q19 | replace Q19 := be_f Q19 | replace Q19 := of_decide_eq_true Q19 | replace Q19 := of_decide_eq_false Q19)
                                       first
                                        | (exfalso; first | omega | (simp only [hG72, hp60b, Bool.true_eq_false] at *; done) | (simp only [hG121, hp109b, Bool.false_eq_true] at *; done) | contradiction | (cases Q19; done))
                                        | skip
                                          refine st_gno rfl rfl ?_
                                          refine st_gno rfl rfl ?_
                                          refine st_gno rfl rfl ?_
                                          refine st_val (ro_pickT (v := .bool _) rfl rfl) ?_
                                          refine st_val (ro_move (v := .bool _) rfl) ?_
                                          refine st_gno rfl rfl ?_
                                          refine st_gno rfl rfl ?_
                                          refine st_gno rfl rfl ?_
                                          refine st_val (ro_pickT (v := .bool _) rfl rfl) ?_
                                          refine st_val (ro_move (v := .bool _) rfl) ?_
                                          refine st_gno rfl rfl ?_
                                          refine st_gno rfl rfl ?_
                                          refine st_val (ro_pickT (v := .bool _) rfl rfl) ?_
                                          refine st_nil ?_
                                          refine nx_then ?_
                                          refine cd_condT rfl ?_
                                          refine cd_seq ?_
                                          refine cd_region ?_
                                          refine st_val (ro_assign (v := .bool _) rfl) ?_
                                          refine st_nil ?_
                                          refine nx_then ?_
                                          refine cd_ret ?_
                                          refine rt_block ?_
                                          refine rt_then ?_
                                          refine rt_then ?_
                                          refine rt_block ?_
                                          refine rt_then ?_
                                          refine res1 (v := .bool _) rfl rfl ?_
                                          exact ⟨rfl, ((hB.next E60).next E66)⟩
                                     · (try first | replace Q19 := bn_t Q19 | replace Q19 := bn_f Q19)
                                       (try first | replace Q19 := bx_t Q19 | replace Q19 := bx_f Q19 | replace Q19 := be_t Q19 | replace Q19 := be_f Q19 | replace Q19 := of_decide_eq_true Q19 | replace Q19 := of_decide_eq_false Q19)
                                       first
                                        | (exfalso; first | omega | (simp only [hG72, hp60b, Bool.true_eq_false] at *; done) | (simp only [hG121, hp109b, Bool.false_eq_true] at *; done) | contradiction | (cases Q19; done))
                                        | skip
                                          refine st_unguard rfl ?_
                                          refine st_val (ro_move (v := .int _ _) rfl) ?_
                                          refine st_unguard rfl ?_
                                          refine st_call BitsLaw2_k10 (num_any _ _) ?_
                                          rintro v85 w20 ⟨rfl, rfl⟩
                                          refine st_unguard rfl ?_
                                          refine st_val (ro_neq rfl rfl) ?_
                                          refine st_val (ro_pickF (v := .bool _) rfl rfl) ?_
                                          refine st_val (ro_move (v := .bool _) rfl) ?_
                                          refine st_split (t := 88) rfl (fun Q21 => ?_) (fun Q21 => ?_)
                                          · (try first | replace Q21 := bn_t Q21 | replace Q21 := bn_f Q21)
                                            (try first | replace Q21 := bx_t Q21 | replace Q21 := bx_f Q21 | replace Q21 := be_t Q21 | replace Q21 := be_f Q21 | replace Q21 := of_decide_eq_true Q21 | replace Q21 := of_decide_eq_false Q21)
                                            first
                                             | (exfalso; first | omega | (simp only [hG72, hp60b, Bool.true_eq_false] at *; done) | (simp only [hG121, hp109b, Bool.false_eq_true] at *; done) | contradiction | (cases Q21; done))
                                             | skip
                                               refine st_gno rfl rfl ?_
                                               refine st_gno rfl rfl ?_
                                               refine st_gno rfl rfl ?_
                                               refine st_val (ro_pickT (v := .bool _) rfl rfl) ?_
                                               refine st_val (ro_move (v := .bool _) rfl) ?_
                                               refine st_gno rfl rfl ?_
                                               refine st_gno rfl rfl ?_
                                               refine st_val (ro_pickT (v := .bool _) rfl rfl) ?_
                                               refine st_nil ?_
                                               refine nx_then ?_
                                               refine cd_condT rfl ?_
                                               refine cd_seq ?_
                                               refine cd_region ?_
                                               refine st_val (ro_assign (v := .bool _) rfl) ?_
                                               refine st_nil ?_
                                               refine nx_then ?_
                                               refine cd_ret ?_
                                               refine rt_block ?_
                                               refine rt_then ?_
                                               refine rt_then ?_
                                               refine rt_block ?_
                                               refine rt_then ?_
                                               refine res1 (v := .bool _) rfl rfl ?_
                                               exact ⟨rfl, ((hB.next E60).next E66)⟩
                                          · (try first | replace Q21 := bn_t Q21 | replace Q21 := bn_f Q21)
                                            (try first | replace Q21 := bx_t Q21 | replace Q21 := bx_f Q21 | replace Q21 := be_t Q21 | replace Q21 := be_f Q21 | replace Q21 := of_decide_eq_true Q21 | replace Q21 := of_decide_eq_false Q21)
                                            first
                                             | (exfalso; first | omega | (simp only [hG72, hp60b, Bool.true_eq_false] at *; done) | (simp only [hG121, hp109b, Bool.false_eq_true] at *; done) | contradiction | (cases Q21; done))
                                             | skip
                                               refine st_unguard rfl ?_
                                               refine st_val (ro_move (v := .int _ _) rfl) ?_
                                               refine st_unguard rfl ?_
                                               refine st_val (ro_move (v := .int _ _) rfl) ?_
                                               refine st_unguard rfl ?_
                                               refine st_val (ro_neq rfl rfl) ?_
                                               refine st_val (ro_pickF (v := .bool _) rfl rfl) ?_
                                               refine st_val (ro_move (v := .bool _) rfl) ?_
                                               refine st_split (t := 93) rfl (fun Q22 => ?_) (fun Q22 => ?_)
                                               · (try first | replace Q22 := bn_t Q22 | replace Q22 := bn_f Q22)
                                                 (try first | replace Q22 := bx_t Q22 | replace Q22 := bx_f Q22 | replace Q22 := be_t Q22 | replace Q22 := be_f Q22 | replace Q22 := of_decide_eq_true Q22 | replace Q22 := of_decide_eq_false Q22)
                                                 first
                                                  | (exfalso; first | omega | (simp only [hG72, hp60b, Bool.true_eq_false] at *; done) | (simp only [hG121, hp109b, Bool.false_eq_true] at *; done) | contradiction | (cases Q22; done))
                                                  | skip
                                                    refine st_gno rfl rfl ?_
                                                    refine st_gno rfl rfl ?_
                                                    refine st_val (ro_pickT (v := .bool _) rfl rfl) ?_
                                                    refine st_nil ?_
                                                    refine nx_then ?_
                                                    refine cd_condT rfl ?_
                                                    refine cd_seq ?_
                                                    refine cd_region ?_
                                                    refine st_val (ro_assign (v := .bool _) rfl) ?_
                                                    refine st_nil ?_
                                                    refine nx_then ?_
                                                    refine cd_ret ?_
                                                    refine rt_block ?_
                                                    refine rt_then ?_
                                                    refine rt_then ?_
                                                    refine rt_block ?_
                                                    refine rt_then ?_
                                                    refine res1 (v := .bool _) rfl rfl ?_
                                                    exact ⟨rfl, ((hB.next E60).next E66)⟩
                                               · (try first | replace Q22 := bn_t Q22 | replace Q22 := bn_f Q22)
                                                 (try first | replace Q22 := bx_t Q22 | replace Q22 := bx_f Q22 | replace Q22 := be_t Q22 | replace Q22 := be_f Q22 | replace Q22 := of_decide_eq_true Q22 | replace Q22 := of_decide_eq_false Q22)
                                                 first
                                                  | (exfalso; first | omega | (simp only [hG72, hp60b, Bool.true_eq_false] at *; done) | (simp only [hG121, hp109b, Bool.false_eq_true] at *; done) | contradiction | (cases Q22; done))
                                                  | skip
                                                    refine st_unguard rfl ?_
                                                    refine st_val (ro_move (v := .bool _) rfl) ?_
                                                    refine st_unguard rfl ?_
                                                    refine st_val (ro_not rfl) ?_
                                                    refine st_val (ro_pickF (v := .bool _) rfl rfl) ?_
                                                    refine st_nil ?_
                                                    refine nx_then ?_
                                                    refine cd_cond rfl (fun Q23 => ?_) (fun Q23 => ?_)
                                                    · (try first | replace Q23 := bn_t Q23 | replace Q23 := bn_f Q23)
                                                      (try first | replace Q23 := bx_t Q23 | replace Q23 := bx_f Q23 | replace Q23 := be_t Q23 | replace Q23 := be_f Q23 | replace Q23 := of_decide_eq_true Q23 | replace Q23 := of_decide_eq_false Q23)
                                                      first
                                                       | (exfalso; first | omega | (simp only [hG72, hp60b, Bool.true_eq_false] at *; done) | (simp only [hG121, hp109b, Bool.false_eq_true] at *; done) | contradiction | (cases Q23; done))
                                                       | skip
                                                         refine cd_seq ?_
                                                         refine cd_region ?_
                                                         refine st_val (ro_assign (v := .bool _) rfl) ?_
                                                         refine st_nil ?_
                                                         refine nx_then ?_
                                                         refine cd_ret ?_
                                                         refine rt_block ?_
                                                         refine rt_then ?_
                                                         refine rt_then ?_
                                                         refine rt_block ?_
                                                         refine rt_then ?_
                                                         refine res1 (v := .bool _) rfl rfl ?_
                                                         exact ⟨rfl, ((hB.next E60).next E66)⟩
                                                    · (try first | replace Q23 := bn_t Q23 | replace Q23 := bn_f Q23)
                                                      (try first | replace Q23 := bx_t Q23 | replace Q23 := bx_f Q23 | replace Q23 := be_t Q23 | replace Q23 := be_f Q23 | replace Q23 := of_decide_eq_true Q23 | replace Q23 := of_decide_eq_false Q23)
                                                      first
                                                       | (exfalso; first | omega | (simp only [hG72, hp60b, Bool.true_eq_false] at *; done) | (simp only [hG121, hp109b, Bool.false_eq_true] at *; done) | contradiction | (cases Q23; done))
                                                       | skip
                                                         refine cd_skip ?_
                                                         refine nx_block ?_
                                                         refine nx_then ?_
                                                         refine cd_region ?_
                                                         refine st_val (ro_move (v := .int _ _) rfl) ?_
                                                         refine st_val (ro_addN (b := 1) rfl rfl (by omega)) ?_
                                                         refine st_val (ro_assign (v := .int _ _) rfl) ?_
                                                         refine st_nil ?_
                                                         refine nx_cut (k + 1) ⟨(by first | rfl | (refine int_eq ?_; omega)), trivial⟩ (by (iterate 109 refine agr_cons rfl ?_); exact agr_rfl) ⟨?_, ?_⟩
                                                         · exact ⟨by omega, hv.from_ ((From.rfl_.next E60).next E66), hP1.from_ ((From.rfl_.next E60).next E66), ((hB.next E60).next E66)⟩
                                                         · omega
                           · (try first | replace Q12 := bn_t Q12 | replace Q12 := bn_f Q12)
                             (try first | replace Q12 := bx_t Q12 | replace Q12 := bx_f Q12 | replace Q12 := be_t Q12 | replace Q12 := be_f Q12 | replace Q12 := of_decide_eq_true Q12 | replace Q12 := of_decide_eq_false Q12)
                             first
                              | (exfalso; first | omega | (simp only [hG72, hp60b, Bool.true_eq_false] at *; done) | (simp only [hG121, hp109b, Bool.false_eq_true] at *; done) | contradiction | (cases Q12; done))
                              | skip
                                refine cd_exit ?_
                                refine ex_then ?_
                                refine ex_then ?_
                                refine ex_block ?_
                                refine nx_then ?_
                                refine cd_seq ?_
                                refine cd_seq ?_
                                refine cd_region ?_
                                refine st_val (ro_assign (v := .int _ _) rfl) ?_
                                refine st_nil ?_
                                refine nx_then ?_
                                refine cd_block ?_
                                refine cd_loop (G := Nat) [2, 14, 15, 16, 17, 18, 19, 97, 98, 99, 100, 101, 102, 103, 104, 105, 106, 107, 108, 109, 110, 111, 112, 113, 114, 115, 116, 117, 118, 119, 120, 121, 122, 123, 124, 125, 126, 127, 128, 129, 130, 131, 132, 133, 134, 135, 136, 137, 138, 139, 140, 141, 142, 143, 144, 145, 146] (fun k => [(13, .int .i64 (k : Nat))]) (fun k w' => k ≤ l.length - rk l l.length ∧ Vec w' w.heap.size b l ∧ Blk w' b1 25 #[.slice A l.length ca, .slice B is.length cb] ∧ From w w') (fun k => l.length - rk l l.length - k) (0) ⟨rfl, trivial⟩ ?_ ?_
                                · exact ⟨Nat.zero_le _, hv.from_ From.rfl_, hP1.from_ From.rfl_, hB⟩
                                rintro k ρ24 w24 ⟨hk, hv, hP1, hB⟩
                                refine cd_seq ?_
                                refine cd_seq ?_
                                refine cd_region ?_
                                refine st_val (ro_move (v := .int _ _) rfl) ?_
                                refine st_val (ro_fieldAddr BitsLaw2_f25_0 rfl) ?_
                                refine st_val (ro_load BitsLaw2_g22 rfl (by first | (first | exact (hP1.from_ From.rfl_).whole | exact (hP1.from_ From.rfl_).rd 0 rfl | exact (hP1.from_ From.rfl_).rd 1 rfl) | (first | exact (hk1.from_ From.rfl_).whole | exact (hk1.from_ From.rfl_).rd 0 rfl | exact (hk1.from_ From.rfl_).rd 1 rfl))) ?_
                                refine st_val (ro_len BitsLaw2_l22 rfl) ?_
                                refine st_val (ro_move (v := .int _ _) rfl) ?_
                                refine st_val (ro_subN rfl rfl (by omega)) ?_
                                refine st_val (ro_lss rfl rfl) ?_
                                refine st_nil ?_
                                refine nx_then ?_
                                refine cd_cond rfl (fun Q25 => ?_) (fun Q25 => ?_)
                                · (try first | replace Q25 := bn_t Q25 | replace Q25 := bn_f Q25)
                                  (try first | replace Q25 := bx_t Q25 | replace Q25 := bx_f Q25 | replace Q25 := be_t Q25 | replace Q25 := be_f Q25 | replace Q25 := of_decide_eq_true Q25 | replace Q25 := of_decide_eq_false Q25)
                                  first
                                   | (exfalso; first | omega | (simp only [hG72, hp60b, Bool.true_eq_false] at *; done) | (simp only [hG121, hp109b, Bool.false_eq_true] at *; done) | contradiction | (cases Q25; done))
                                   | skip
                                     refine cd_skip ?_
                                     refine nx_then ?_
                                     refine cd_seq ?_
                                     refine cd_block ?_
                                     refine cd_seq ?_
                                     refine cd_region ?_
                                     refine st_val (ro_move (v := .pointer _) rfl) ?_
                                     refine st_val (ro_move (v := .int _ _) rfl) ?_
                                     refine st_call BitsLaw2_k9 (sel0_k _ b k l _ (hv.from_ From.rfl_) (hT.from_ hB) (by omega)) ?_
                                     rintro v109 w26 ⟨p109, rfl, hp109a, hp109b, hp109c, E109⟩
                                     obtain ⟨hR109, hE109⟩ := rB_at (l := l) (p := p109) (by omega)
                                     obtain ⟨hG121, hE121⟩ := gB_at (l := l) (p := p109) (by omega)
                                     have hrp := rk_le l p109
                                     refine st_val (ro_move (v := .tuple _) rfl) ?_
                                     refine st_val (ro_extract rfl rfl) ?_
                                     refine st_val (ro_extract rfl rfl) ?_
                                     refine st_val (ro_assign (v := .int _ _) rfl) ?_
                                     refine st_val (ro_assign (v := .int _ _) rfl) ?_
                                     refine st_nil ?_
                                     refine nx_then ?_
                                     refine cd_seq ?_
                                     refine cd_region ?_
                                     refine st_val (ro_move (v := .pointer _) rfl) ?_
                                     refine st_val (ro_move (v := .int _ _) rfl) ?_
                                     refine st_call BitsLaw2_k14 (rank_rt _ b (p109 : Nat) l _ (hv.from_ (From.rfl_.next E109))) ?_
                                     rintro v115 w27 ⟨rfl, E115⟩
                                     refine st_val (ro_move (v := .tuple _) rfl) ?_
                                     refine st_val (ro_extract rfl rfl) ?_
                                     refine st_val (ro_extract rfl rfl) ?_
                                     refine st_val (ro_assign (v := .int _ _) rfl) ?_
                                     refine st_val (ro_assign (v := .int _ _) rfl) ?_
                                     refine st_nil ?_
                                     refine nx_then ?_
                                     refine cd_seq ?_
                                     refine cd_region ?_
                                     refine st_val (ro_move (v := .pointer _) rfl) ?_
                                     refine st_val (ro_move (v := .int _ _) rfl) ?_
                                     refine st_call BitsLaw2_k15 (get_rt _ b (p109 : Nat) l _ (hv.from_ ((From.rfl_.next E109).next E115))) ?_
                                     rintro v121 w28 ⟨rfl, rfl⟩
                                     refine st_val (ro_move (v := .tuple _) rfl) ?_
                                     refine st_val (ro_extract rfl rfl) ?_
                                     refine st_val (ro_extract rfl rfl) ?_
                                     refine st_val (ro_assign (v := .bool _) rfl) ?_
                                     refine st_val (ro_assign (v := .int _ _) rfl) ?_
                                     refine st_nil ?_
                                     refine nx_then ?_
                                     refine cd_seq ?_
                                     refine cd_region ?_
                                     refine st_val (ro_move (v := .int _ _) rfl) ?_
                                     refine st_call BitsLaw2_k10 (num_any _ _) ?_
                                     rintro v125 w29 ⟨rfl, rfl⟩
                                     refine st_val (ro_neq rfl rfl) ?_
                                     refine st_val (ro_move (v := .bool _) rfl) ?_
                                     refine st_split (t := 127) rfl (fun Q30 => ?_) (fun Q30 => ?_)
                                     · (try first | replace Q30 := bn_t Q30 | replace Q30 := bn_f Q30)
                                       (try first | replace Q30 := bx_t Q30 | replace Q30 := bx_f Q30 | replace Q30 := be_t Q30 | replace Q30 := be_f Q30 | replace Q30 := of_decide_eq_true Q30 | replace Q30 := of_decide_eq_false Q30)
                                       first
                                        | (exfalso; first | omega | (simp only [hG72, hp60b, Bool.true_eq_false] at *; done) | (simp only [hG121, hp109b, Bool.false_eq_true] at *; done) | contradiction | (cases Q30; done))
                                        | skip
                                          refine st_gno rfl rfl ?_
                                          refine st_gno rfl rfl ?_
                                          refine st_gno rfl rfl ?_
                                          refine st_val (ro_pickT (v := .bool _) rfl rfl) ?_
                                          refine st_val (ro_move (v := .bool _) rfl) ?_
                                          refine st_gno rfl rfl ?_
                                          refine st_gno rfl rfl ?_
                                          refine st_gno rfl rfl ?_
                                          refine st_val (ro_pickT (v := .bool _) rfl rfl) ?_
                                          refine st_val (ro_move (v := .bool _) rfl) ?_
                                          refine st_gno rfl rfl ?_
                                          refine st_gno rfl rfl ?_
                                          refine st_gno rfl rfl ?_
                                          refine st_gno rfl rfl ?_
                                          refine st_gno rfl rfl ?_
                                          refine st_val (ro_pickT (v := .bool _) rfl rfl) ?_
                                          refine st_val (ro_move (v := .bool _) rfl) ?_
                                          refine st_gno rfl rfl ?_
                                          refine st_val (ro_pickT (v := .bool _) rfl rfl) ?_
                                          refine st_nil ?_
                                          refine nx_then ?_
                                          refine cd_condT rfl ?_
                                          refine cd_seq ?_
                                          refine cd_region ?_
                                          refine st_val (ro_assign (v := .bool _) rfl) ?_
                                          refine st_nil ?_
                                          refine nx_then ?_
                                          refine cd_ret ?_
                                          refine rt_block ?_
                                          refine rt_then ?_
                                          refine rt_then ?_
                                          refine rt_block ?_
                                          refine rt_then ?_
                                          refine res1 (v := .bool _) rfl rfl ?_
                                          exact ⟨rfl, ((hB.next E109).next E115)⟩
                                     · (try first | replace Q30 := bn_t Q30 | replace Q30 := bn_f Q30)
                                       (try first | replace Q30 := bx_t Q30 | replace Q30 := bx_f Q30 | replace Q30 := be_t Q30 | replace Q30 := be_f Q30 | replace Q30 := of_decide_eq_true Q30 | replace Q30 := of_decide_eq_false Q30)
                                       first
                                        | (exfalso; first | omega | (simp only [hG72, hp60b, Bool.true_eq_false] at *; done) | (simp only [hG121, hp109b, Bool.false_eq_true] at *; done) | contradiction | (cases Q30; done))
                                        | skip
                                          refine st_unguard rfl ?_
                                          refine st_val (ro_move (v := .int _ _) rfl) ?_
                                          refine st_unguard rfl ?_
                                          refine st_call BitsLaw2_k10 (num_any _ _) ?_
                                          rintro v129 w31 ⟨rfl, rfl⟩
                                          refine st_unguard rfl ?_
                                          refine st_val (ro_neq rfl rfl) ?_
                                          refine st_val (ro_pickF (v := .bool _) rfl rfl) ?_
                                          refine st_val (ro_move (v := .bool _) rfl) ?_
                                          refine st_split (t := 132) rfl (fun Q32 => ?_) (fun Q32 => ?_)
                                          · (try first | replace Q32 := bn_t Q32 | replace Q32 := bn_f Q32)
                                            (try first | replace Q32 := bx_t Q32 | replace Q32 := bx_f Q32 | replace Q32 := be_t Q32 | replace Q32 := be_f Q32 | replace Q32 := of_decide_eq_true Q32 | replace Q32 := of_decide_eq_false Q32)
                                            first
                                             | (exfalso; first | omega | (simp only [hG72, hp60b, Bool.true_eq_false] at *; done) | (simp only [hG121, hp109b, Bool.false_eq_true] at *; done) | contradiction | (cases Q32; done))
                                             | skip
                                               refine st_gno rfl rfl ?_
                                               refine st_gno rfl rfl ?_
                                               refine st_gno rfl rfl ?_
                                               refine st_val (ro_pickT (v := .bool _) rfl rfl) ?_
                                               refine st_val (ro_move (v := .bool _) rfl) ?_
                                               refine st_gno rfl rfl ?_
                                               refine st_gno rfl rfl ?_
                                               refine st_gno rfl rfl ?_
                                               refine st_gno rfl rfl ?_
                                               refine st_gno rfl rfl ?_
                                               refine st_val (ro_pickT (v := .bool _) rfl rfl) ?_
                                               refine st_val (ro_move (v := .bool _) rfl) ?_
                                               refine st_gno rfl rfl ?_
                                               refine st_val (ro_pickT (v := .bool _) rfl rfl) ?_
                                               refine st_nil ?_
                                               refine nx_then ?_
                                               refine cd_condT rfl ?_
                                               refine cd_seq ?_
                                               refine cd_region ?_
                                               refine st_val (ro_assign (v := .bool _) rfl) ?_
                                               refine st_nil ?_
                                               refine nx_then ?_
                                               refine cd_ret ?_
                                               refine rt_block ?_
                                               refine rt_then ?_
                                               refine rt_then ?_
                                               refine rt_block ?_
                                               refine rt_then ?_
                                               refine res1 (v := .bool _) rfl rfl ?_
                                               exact ⟨rfl, ((hB.next E109).next E115)⟩
                                          · (try first | replace Q32 := bn_t Q32 | replace Q32 := bn_f Q32)
                                            (try first | replace Q32 := bx_t Q32 | replace Q32 := bx_f Q32 | replace Q32 := be_t Q32 | replace Q32 := be_f Q32 | replace Q32 := of_decide_eq_true Q32 | replace Q32 := of_decide_eq_false Q32)
                                            first
                                             | (exfalso; first | omega | (simp only [hG72, hp60b, Bool.true_eq_false] at *; done) | (simp only [hG121, hp109b, Bool.false_eq_true] at *; done) | contradiction | (cases Q32; done))
                                             | skip
                                               refine st_unguard rfl ?_
                                               refine st_val (ro_move (v := .int _ _) rfl) ?_
                                               refine st_unguard rfl ?_
                                               refine st_call BitsLaw2_k10 (num_any _ _) ?_
                                               rintro v134 w33 ⟨rfl, rfl⟩
                                               refine st_unguard rfl ?_
                                               refine st_val (ro_neq rfl rfl) ?_
                                               refine st_val (ro_pickF (v := .bool _) rfl rfl) ?_
                                               refine st_val (ro_move (v := .bool _) rfl) ?_
                                               refine st_split (t := 137) rfl (fun Q34 => ?_) (fun Q34 => ?_)
                                               · (try first | replace Q34 := bn_t Q34 | replace Q34 := bn_f Q34)
                                                 (try first | replace Q34 := bx_t Q34 | replace Q34 := bx_f Q34 | replace Q34 := be_t Q34 | replace Q34 := be_f Q34 | replace Q34 := of_decide_eq_true Q34 | replace Q34 := of_decide_eq_false Q34)
                                                 first
                                                  | (exfalso; first | omega | (simp only [hG72, hp60b, Bool.true_eq_false] at *; done) | (simp only [hG121, hp109b, Bool.false_eq_true] at *; done) | contradiction | (cases Q34; done))
                                                  | skip
                                                    refine st_gno rfl rfl ?_
                                                    refine st_gno rfl rfl ?_
                                                    refine st_gno rfl rfl ?_
                                                    refine st_gno rfl rfl ?_
                                                    refine st_gno rfl rfl ?_
                                                    refine st_val (ro_pickT (v := .bool _) rfl rfl) ?_
                                                    refine st_val (ro_move (v := .bool _) rfl) ?_
                                                    refine st_gno rfl rfl ?_
                                                    refine st_val (ro_pickT (v := .bool _) rfl rfl) ?_
                                                    refine st_nil ?_
                                                    refine nx_then ?_
                                                    refine cd_condT rfl ?_
                                                    refine cd_seq ?_
                                                    refine cd_region ?_
                                                    refine st_val (ro_assign (v := .bool _) rfl) ?_
                                                    refine st_nil ?_
                                                    refine nx_then ?_
                                                    refine cd_ret ?_
                                                    refine rt_block ?_
                                                    refine rt_then ?_
                                                    refine rt_then ?_
                                                    refine rt_block ?_
                                                    refine rt_then ?_
                                                    refine res1 (v := .bool _) rfl rfl ?_
                                                    exact ⟨rfl, ((hB.next E109).next E115)⟩
                                               · (try first | replace Q34 := bn_t Q34 | replace Q34 := bn_f Q34)
                                                 (try first | replace Q34 := bx_t Q34 | replace Q34 := bx_f Q34 | replace Q34 := be_t Q34 | replace Q34 := be_f Q34 | replace Q34 := of_decide_eq_true Q34 | replace Q34 := of_decide_eq_false Q34)
                                                 first
                                                  | (exfalso; first | omega | (simp only [hG72, hp60b, Bool.true_eq_false] at *; done) | (simp only [hG121, hp109b, Bool.false_eq_true] at *; done) | contradiction | (cases Q34; done))
                                                  | skip
                                                    refine st_unguard rfl ?_
                                                    refine st_val (ro_move (v := .int _ _) rfl) ?_
                                                    refine st_unguard rfl ?_
                                                    refine st_val (ro_move (v := .int _ _) rfl) ?_
                                                    refine st_unguard rfl ?_
                                                    refine st_val (ro_sub64 rfl rfl (by omega)) ?_
                                                    refine st_unguard rfl ?_
                                                    refine st_val (ro_move (v := .int _ _) rfl) ?_
                                                    refine st_unguard rfl ?_
                                                    refine st_val (ro_neq rfl rfl) ?_
                                                    refine st_val (ro_pickF (v := .bool _) rfl rfl) ?_
                                                    refine st_val (ro_move (v := .bool _) rfl) ?_
                                                    refine st_split (t := 144) rfl (fun Q35 => ?_) (fun Q35 => ?_)
                                                    · (try first | replace Q35 := bn_t Q35 | replace Q35 := bn_f Q35)
                                                      (try first | replace Q35 := bx_t Q35 | replace Q35 := bx_f Q35 | replace Q35 := be_t Q35 | replace Q35 := be_f Q35 | replace Q35 := of_decide_eq_true Q35 | replace Q35 := of_decide_eq_false Q35)
                                                      first
                                                       | (exfalso; first | omega | (simp only [hG72, hp60b, Bool.true_eq_false] at *; done) | (simp only [hG121, hp109b, Bool.false_eq_true] at *; done) | contradiction | (cases Q35; done))
                                                       | skip
                                                         refine st_gno rfl rfl ?_
                                                         refine st_val (ro_pickT (v := .bool _) rfl rfl) ?_
                                                         refine st_nil ?_
                                                         refine nx_then ?_
                                                         refine cd_condT rfl ?_
                                                         refine cd_seq ?_
                                                         refine cd_region ?_
                                                         refine st_val (ro_assign (v := .bool _) rfl) ?_
                                                         refine st_nil ?_
                                                         refine nx_then ?_
                                                         refine cd_ret ?_
                                                         refine rt_block ?_
                                                         refine rt_then ?_
                                                         refine rt_then ?_
                                                         refine rt_block ?_
                                                         refine rt_then ?_
                                                         refine res1 (v := .bool _) rfl rfl ?_
                                                         exact ⟨rfl, ((hB.next E109).next E115)⟩
                                                    · (try first | replace Q35 := bn_t Q35 | replace Q35 := bn_f Q35)
                                                      (try first | replace Q35 := bx_t Q35 | replace Q35 := bx_f Q35 | replace Q35 := be_t Q35 | replace Q35 := be_f Q35 | replace Q35 := of_decide_eq_true Q35 | replace Q35 := of_decide_eq_false Q35)
                                                      first
                                                       | (exfalso; first | omega | (simp only [hG72, hp60b, Bool.true_eq_false] at *; done) | (simp only [hG121, hp109b, Bool.false_eq_true] at *; done) | contradiction | (cases Q35; done))
                                                       | skip
                                                         refine st_unguard rfl ?_
                                                         refine st_val (ro_move (v := .bool _) rfl) ?_
                                                         refine st_val (ro_pickF (v := .bool _) rfl rfl) ?_
                                                         refine st_nil ?_
                                                         refine nx_then ?_
                                                         refine cd_cond rfl (fun Q36 => ?_) (fun Q36 => ?_)
                                                         · (try first | replace Q36 := bn_t Q36 | replace Q36 := bn_f Q36)
                                                           (try first | replace Q36 := bx_t Q36 | replace Q36 := bx_f Q36 | replace Q36 := be_t Q36 | replace Q36 := be_f Q36 | replace Q36 := of_decide_eq_true Q36 | replace Q36 := of_decide_eq_false Q36)
                                                           first
                                                            | (exfalso; first | omega | (simp only [hG72, hp60b, Bool.true_eq_false] at *; done) | (simp only [hG121, hp109b, Bool.false_eq_true] at *; done) | contradiction | (cases Q36; done))
                                                            | skip
                                                              refine cd_seq ?_
                                                              refine cd_region ?_
                                                              refine st_val (ro_assign (v := .bool _) rfl) ?_
                                                              refine st_nil ?_
                                                              refine nx_then ?_
                                                              refine cd_ret ?_
                                                              refine rt_block ?_
                                                              refine rt_then ?_
                                                              refine rt_then ?_
                                                              refine rt_block ?_
                                                              refine rt_then ?_
                                                              refine res1 (v := .bool _) rfl rfl ?_
                                                              exact ⟨rfl, ((hB.next E109).next E115)⟩
                                                         · (try first | replace Q36 := bn_t Q36 | replace Q36 := bn_f Q36)
                                                           (try first | replace Q36 := bx_t Q36 | replace Q36 := bx_f Q36 | replace Q36 := be_t Q36 | replace Q36 := be_f Q36 | replace Q36 := of_decide_eq_true Q36 | replace Q36 := of_decide_eq_false Q36)
                                                           first
                                                            | (exfalso; first | omega | (simp only [hG72, hp60b, Bool.true_eq_false] at *; done) | (simp only [hG121, hp109b, Bool.false_eq_true] at *; done) | contradiction | (cases Q36; done))
                                                            | skip
                                                              refine cd_skip ?_
                                                              refine nx_block ?_
                                                              refine nx_then ?_
                                                              refine cd_region ?_
                                                              refine st_val (ro_move (v := .int _ _) rfl) ?_
                                                              refine st_val (ro_addN (b := 1) rfl rfl (by omega)) ?_
                                                              refine st_val (ro_assign (v := .int _ _) rfl) ?_
                                                              refine st_nil ?_
                                                              refine nx_cut (k + 1) ⟨(by first | rfl | (refine int_eq ?_; omega)), trivial⟩ (by (iterate 119 refine agr_cons rfl ?_); exact agr_rfl) ⟨?_, ?_⟩
                                                              · exact ⟨by omega, hv.from_ ((From.rfl_.next E109).next E115), hP1.from_ ((From.rfl_.next E109).next E115), ((hB.next E109).next E115)⟩
                                                              · omega
                                · (try first | replace Q25 := bn_t Q25 | replace Q25 := bn_f Q25)
                                  (try first | replace Q25 := bx_t Q25 | replace Q25 := bx_f Q25 | replace Q25 := be_t Q25 | replace Q25 := be_f Q25 | replace Q25 := of_decide_eq_true Q25 | replace Q25 := of_decide_eq_false Q25)
                                  first
                                   | (exfalso; first | omega | (simp only [hG72, hp60b, Bool.true_eq_false] at *; done) | (simp only [hG121, hp109b, Bool.false_eq_true] at *; done) | contradiction | (cases Q25; done))
                                   | skip
                                     refine cd_exit ?_
                                     refine ex_then ?_
                                     refine ex_then ?_
                                     refine ex_block ?_
                                     refine nx_then ?_
                                     refine cd_seq ?_
                                     refine cd_region ?_
                                     refine st_val (ro_move (v := .pointer _) rfl) ?_
                                     refine st_val (ro_move (v := .int _ _) rfl) ?_
                                     refine st_call BitsLaw2_k8 (sel_out _ b l _ (hv.from_ From.rfl_) ((rk l l.length : Nat) : Int) (by rw [fl_false]; omega)) ?_
                                     rintro v150 w37 ⟨rfl, E150⟩
                                     refine st_val (ro_move (v := .tuple _) rfl) ?_
                                     refine st_val (ro_extract rfl rfl) ?_
                                     refine st_val (ro_extract rfl rfl) ?_
                                     refine st_val (ro_assign (v := .int _ _) rfl) ?_
                                     refine st_val (ro_assign (v := .int _ _) rfl) ?_
                                     refine st_nil ?_
                                     refine nx_then ?_
                                     refine cd_seq ?_
                                     refine cd_region ?_
                                     refine st_val (ro_move (v := .pointer _) rfl) ?_
                                     refine st_val (ro_fieldAddr BitsLaw2_f25_0 rfl) ?_
                                     refine st_val (ro_load BitsLaw2_g22 rfl (by first | (first | exact (hP1.from_ (From.rfl_.next E150)).whole | exact (hP1.from_ (From.rfl_.next E150)).rd 0 rfl | exact (hP1.from_ (From.rfl_.next E150)).rd 1 rfl) | (first | exact (hk1.from_ (From.rfl_.next E150)).whole | exact (hk1.from_ (From.rfl_.next E150)).rd 0 rfl | exact (hk1.from_ (From.rfl_.next E150)).rd 1 rfl))) ?_
                                     refine st_val (ro_len BitsLaw2_l22 rfl) ?_
                                     refine st_val (ro_move (v := .int _ _) rfl) ?_
                                     refine st_val (ro_subN rfl rfl (by omega)) ?_
                                     refine st_call BitsLaw2_k9 (sel0_out _ b l _ (hv.from_ (From.rfl_.next E150)) ((l.length - rk l l.length : Nat) : Int) (by rw [fl_true]; omega)) ?_
                                     rintro v160 w38 ⟨rfl, E160⟩
                                     refine st_val (ro_move (v := .tuple _) rfl) ?_
                                     refine st_val (ro_extract rfl rfl) ?_
                                     refine st_val (ro_extract rfl rfl) ?_
                                     refine st_val (ro_assign (v := .int _ _) rfl) ?_
                                     refine st_val (ro_assign (v := .int _ _) rfl) ?_
                                     refine st_nil ?_
                                     refine nx_then ?_
                                     refine cd_seq ?_
                                     refine cd_region ?_
                                     refine st_val (ro_move (v := .int _ _) rfl) ?_
                                     refine st_call BitsLaw2_k10 (num_any _ _) ?_
                                     rintro v164 w39 ⟨rfl, rfl⟩
                                     refine st_val (ro_eql rfl rfl) ?_
                                     refine st_val (ro_move (v := .bool _) rfl) ?_
                                     refine st_split (t := 166) rfl (fun Q40 => ?_) (fun Q40 => ?_)
                                     · (try first | replace Q40 := bn_t Q40 | replace Q40 := bn_f Q40)
                                       (try first | replace Q40 := bx_t Q40 | replace Q40 := bx_f Q40 | replace Q40 := be_t Q40 | replace Q40 := be_f Q40 | replace Q40 := of_decide_eq_true Q40 | replace Q40 := of_decide_eq_false Q40)
                                       first
                                        | (exfalso; first | omega | (simp only [hG72, hp60b, Bool.true_eq_false] at *; done) | (simp only [hG121, hp109b, Bool.false_eq_true] at *; done) | contradiction | (cases Q40; done))
                                        | skip
                                          refine st_unguard rfl ?_
                                          refine st_val (ro_move (v := .int _ _) rfl) ?_
                                          refine st_unguard rfl ?_
                                          refine st_call BitsLaw2_k10 (num_any _ _) ?_
                                          rintro v168 w41 ⟨rfl, rfl⟩
                                          refine st_unguard rfl ?_
                                          refine st_val (ro_eql rfl rfl) ?_
                                          refine st_val (ro_pickT (v := .bool _) rfl rfl) ?_
                                          refine st_val (ro_move (v := .bool _) rfl) ?_
                                          refine st_split (t := 171) rfl (fun Q42 => ?_) (fun Q42 => ?_)
                                          · (try first | replace Q42 := bn_t Q42 | replace Q42 := bn_f Q42)
                                            (try first | replace Q42 := bx_t Q42 | replace Q42 := bx_f Q42 | replace Q42 := be_t Q42 | replace Q42 := be_f Q42 | replace Q42 := of_decide_eq_true Q42 | replace Q42 := of_decide_eq_false Q42)
                                            first
                                             | (exfalso; first | omega | (simp only [hG72, hp60b, Bool.true_eq_false] at *; done) | (simp only [hG121, hp109b, Bool.false_eq_true] at *; done) | contradiction | (cases Q42; done))
                                             | skip
                                               refine st_unguard rfl ?_
                                               refine st_call BitsLaw2_k13 (wakes_any _) ?_
                                               rintro v172 w43 ⟨rfl, E172⟩
                                               refine st_val (ro_pickT (v := .bool _) rfl rfl) ?_
                                               refine st_val (ro_assign (v := .bool _) rfl) ?_
                                               refine st_nil ?_
                                               refine nx_then ?_
                                               refine cd_ret ?_
                                               refine res1 (v := .bool _) rfl rfl ?_
                                               exact ⟨rfl, (((hB.next E150).next E160).next E172)⟩
                                          · (try first | replace Q42 := bn_t Q42 | replace Q42 := bn_f Q42)
                                            (try first | replace Q42 := bx_t Q42 | replace Q42 := bx_f Q42 | replace Q42 := be_t Q42 | replace Q42 := be_f Q42 | replace Q42 := of_decide_eq_true Q42 | replace Q42 := of_decide_eq_false Q42)
                                            first
                                             | (exfalso; first | omega | (simp only [hG72, hp60b, Bool.true_eq_false] at *; done) | (simp only [hG121, hp109b, Bool.false_eq_true] at *; done) | contradiction | (cases Q42; done))
                                             | skip
                                               refine st_gno rfl rfl ?_
                                               refine st_val (ro_pickF (v := .bool _) rfl rfl) ?_
                                               refine st_val (ro_assign (v := .bool _) rfl) ?_
                                               refine st_nil ?_
                                               refine nx_then ?_
                                               refine cd_ret ?_
                                               refine res1 (v := .bool _) rfl rfl ?_
                                               exact ⟨rfl, ((hB.next E150).next E160)⟩
                                     · (try first | replace Q40 := bn_t Q40 | replace Q40 := bn_f Q40)
                                       (try first | replace Q40 := bx_t Q40 | replace Q40 := bx_f Q40 | replace Q40 := be_t Q40 | replace Q40 := be_f Q40 | replace Q40 := of_decide_eq_true Q40 | replace Q40 := of_decide_eq_false Q40)
                                       first
                                        | (exfalso; first | omega | (simp only [hG72, hp60b, Bool.true_eq_false] at *; done) | (simp only [hG121, hp109b, Bool.false_eq_true] at *; done) | contradiction | (cases Q40; done))
                                        | skip
                                          refine st_gno rfl rfl ?_
                                          refine st_gno rfl rfl ?_
                                          refine st_gno rfl rfl ?_
                                          refine st_val (ro_pickF (v := .bool _) rfl rfl) ?_
                                          refine st_val (ro_move (v := .bool _) rfl) ?_
                                          refine st_gno rfl rfl ?_
                                          refine st_val (ro_pickF (v := .bool _) rfl rfl) ?_
                                          refine st_val (ro_assign (v := .bool _) rfl) ?_
                                          refine st_nil ?_
                                          refine nx_then ?_
                                          refine cd_ret ?_
                                          refine res1 (v := .bool _) rfl rfl ?_
                                          exact ⟨rfl, ((hB.next E150).next E160)⟩
theorem walk_laid {H : Type} {enc : TypeId × Value → H} {F : FuncId} {T : TypeId} (t u : Ty) (hf : (Ty.pr t u).fits Tryd.prog (.inl T) = true) (laid : List (String × DataW Unit)) (hl : ∀ W, laidMetH Tryd.prog laid W → TZ W)
    (h : ∀ (cs : Array Value) (x : (Ty.pr t u).den) (w : World), cs.size = (Ty.pr t u).size → (Ty.pr t u).At w (fun j => cs[j]?) x → TZ w → Rt Tryd.prog F [.agg cs] w fun v w' => v = .bool true ∧ From w w')
    (W : World) (base : Nat) (v : Value) (d : DataW H) (p : List MemPlace) (hL : laidMetH Tryd.prog laid W) (_ : W.ShapedOpen Tryd.prog) (hok : Value.okWide Tryd.prog W .any base T v) (ht : DataW.Trod enc Tryd.prog W 0 (fun _ => true) true T v d p) (hsz : ∀ n ∈ d.weights Tryd.prog T, n ≤ 140737488351232) :
    Calls Tryd.prog F #[v] W fun e W' => e = .returned (.bool true) ∧ From W W' := by
  obtain ⟨cs, x, rfl, hs, ha⟩ := arg_st t u hf hok ht hsz
  exact Rt.to (h cs x W hs ha (hl W hL))
theorem selects_arg (cs : Array Value) (x : (Ty.pr (.sl .bool) (.pr (.sl (.int .i64)) .unit)).den) (w : World) (hs : cs.size = 2) (h : (Ty.pr (.sl .bool) (.pr (.sl (.int .i64)) .unit)).At w (fun j => cs[j]?) x) (hT : TZ w) :
    Rt Tryd.prog 3 [.agg cs] w fun v w' => v = .bool true ∧ From w w' := by
  obtain ⟨A, ca, l, B, cb, is, rfl, h1, _, h3, _, h5⟩ := ask_of hs h
  exact selects_law A B ca cb l is w h1 h3 h5 hT
/-- A WORLD FOR THE WITNESS: the settled one, the variables holding what their initialisers lay. -/
noncomputable def BitsSelects_world (os : Os) : World :=
  { World.holding Tryd.prog os ⟨#[], #[], []⟩ with heap := (World.holding Tryd.prog os ⟨#[], #[], []⟩).heap.modify 0 fun | .cells _ t frozen => .cells #[.int .u8 0, .int .u8 1, .int .u8 56, .int .u8 2, .int .u8 57, .int .u8 49, .int .u8 28, .int .u8 3, .int .u8 61, .int .u8 58, .int .u8 42, .int .u8 50, .int .u8 38, .int .u8 29, .int .u8 17, .int .u8 4, .int .u8 62, .int .u8 47, .int .u8 59, .int .u8 36, .int .u8 45, .int .u8 43, .int .u8 51, .int .u8 22, .int .u8 53, .int .u8 39, .int .u8 33, .int .u8 30, .int .u8 24, .int .u8 18, .int .u8 12, .int .u8 5, .int .u8 63, .int .u8 55, .int .u8 48, .int .u8 27, .int .u8 60, .int .u8 41, .int .u8 37, .int .u8 16, .int .u8 46, .int .u8 35, .int .u8 44, .int .u8 21, .int .u8 52, .int .u8 32, .int .u8 23, .int .u8 11, .int .u8 54, .int .u8 26, .int .u8 40, .int .u8 15, .int .u8 34, .int .u8 20, .int .u8 31, .int .u8 10, .int .u8 25, .int .u8 14, .int .u8 19, .int .u8 9, .int .u8 13, .int .u8 8, .int .u8 7, .int .u8 6] t frozen | o => o }
theorem BitsSelects_met (os : Os) : laidMet Tryd.prog Rows.bitsSelectsRow.laid ((BitsSelects_world os).forCall (fun _ _ => 0) ⟨#[], #[.agg #[.slice none 0 0, .slice none 0 0]], []⟩).memory :=
  laidMet_of_run' 8 (by kernel_rfl) (by kernel_rfl)
theorem BitsSelects_reads (os : Os) {H : Type} (enc : TypeId × Value → H) : ∃ places, DataW.whole enc Tryd.prog ((BitsSelects_world os).forCall (fun _ _ => 0) ⟨#[], #[.agg #[.slice none 0 0, .slice none 0 0]], []⟩).memory Tryd.f3.params.toList Rows.bitsSelectsSpec.vars false #[(.agg #[.slice none 0 0, .slice none 0 0] : Value)].toList 8 = some ([.agg [.nil, .nil]], [], places) :=
  ⟨[], by kernel_rfl⟩

set_option maxRecDepth 100000 in
theorem BitsSelects_lifted (os : Os) (started : os.Started) (H : Type) (enc : TypeId × Value → H) (F : Stop.Interp) :
    ReturnsInHanded {} Tryd.checked os 3 .any ((OpenSpec.ofChange Rows.bitsSelectsSpec).preRow enc Tryd.prog Tryd.f3 Rows.bitsSelectsRow.domain false Rows.bitsSelectsRow.laid) (((OpenSpec.ofChange Rows.bitsSelectsSpec).at F).post enc Tryd.prog Tryd.f3 false true false false) := by
  obtain ⟨places, hx⟩ := BitsSelects_reads os enc
  refine returnsInHanded_of_row (C := Tryd.checked) (s := OpenSpec.ofChange Rows.bitsSelectsSpec) Tryd.own started (by kernel_rfl) Tryd.func3
    (witness_row_at (enc := enc) (C := Tryd.checked) false (BitsSelects_world os) #[.agg #[.slice none 0 0, .slice none 0 0]] rfl (by kernel_rfl) (by kernel_rfl) (by kernel_rfl)
      (OpenSpec.preRow_of_cond 8 hx (by kernel_rfl) (fun k hk => by cases hk) (by kernel_rfl) (BitsSelects_met os))) ?_
  intro W base args ds gs before hval hW _ _ hsz hL hS _
  exact law_step_laid 3 Tryd.f3 25 4 Rows.bitsSelectsSpec Tryd.params3 (by kernel_rfl) Tryd.underlying4 rfl (fun _ => rfl) (by kernel_rfl) (of_decide_eq_true (by kernel_rfl)) Rows.bitsSelectsRow.laid (walk_laid (.sl .bool) (.pr (.sl (.int .i64)) .unit) (by kernel_rfl) Rows.bitsSelectsRow.laid (fun _ h => table_of h) selects_arg) W base args ds gs before hval hW hsz hL hS

theorem BitsSelects_said : Rows.BitsSelectsSaid :=
  OpenClaim.holds_of_cond 3 Tryd.f3 rfl rfl rfl rfl rfl rfl rfl ⟨rfl, rfl, rfl, rfl, rfl⟩ rfl rfl rfl rfl rfl (by kernel_rfl) Tryd.func3 (by kernel_rfl)
    (of_decide_eq_true (by kernel_rfl)) (by unfold Func.isWrapper; first | (rw [if_pos (by decide +kernel)]; kernel_rfl) | (rw [if_neg (by decide +kernel)]; exact ⟨rfl, rfl⟩))
    (fun os started H enc _ F => by rw [OpenClaim.pre_eq_preRow]; exact BitsSelects_lifted os started H enc F)

theorem BitsSelects_plain (f : FuncId) (fn : Func) (hf : Tryd.pinned.checked.prog.funcNamed "lectern/lecternlaw1.BitsSelects" = some f) (hfn : Tryd.pinned.checked.prog.funcs[f]? = some fn) :
    false = Tryd.pinned.checked.prog.looks [] ∧ ∀ (j : Nat) t, fn.params[j]? = some t → Tryd.pinned.checked.prog.wantsStandIn t = false := by
  obtain rfl : f = 3 := Option.some.inj ((show Tryd.prog.funcNamed "lectern/lecternlaw1.BitsSelects" = some 3 by kernel_rfl).symm.trans hf) |>.symm
  obtain rfl : fn = Tryd.f3 := (Option.some.inj (Tryd.func3.symm.trans hfn)).symm
  refine ⟨by kernel_rfl, fun j t ht => ?_⟩
  rw [(Tryd.params3)] at ht
  obtain rfl : t = 25 := by simpa using Array.mem_of_getElem? ht
  exact (show Tryd.prog.wantsStandIn 25 = false by kernel_rfl)

theorem BitsSelects_holds : Rows.BitsSelectsCardSaid :=
  Claim7.holds_tied_plain_at .later [] _ _ _ _ BitsSelects_said (fun _ h => by cases h) (by kernel_rfl) (fun _ h => by cases h) bitsSelects_row_tie rfl ⟨rfl, rfl⟩ (by kernel_rfl) rfl BitsSelects_plain (by kernel_rfl)
#print axioms BitsSelects_holds

theorem back_arg (cs : Array Value) (x : (Ty.pr (.sl .bool) (.pr (.sl (.int .i64)) .unit)).den) (w : World) (hs : cs.size = 2) (h : (Ty.pr (.sl .bool) (.pr (.sl (.int .i64)) .unit)).At w (fun j => cs[j]?) x) (hT : TZ w) :
    Rt Tryd.prog 4 [.agg cs] w fun v w' => v = .bool true ∧ From w w' := by
  obtain ⟨A, ca, l, B, cb, is, rfl, h1, _, h3, _, h5⟩ := ask_of hs h
  exact back_law A B ca cb l is w h1 h3 h5 hT
/-- A WORLD FOR THE WITNESS: the settled one, the variables holding what their initialisers lay. -/
noncomputable def BitsBack_world (os : Os) : World :=
  { World.holding Tryd.prog os ⟨#[], #[], []⟩ with heap := (World.holding Tryd.prog os ⟨#[], #[], []⟩).heap.modify 0 fun | .cells _ t frozen => .cells #[.int .u8 0, .int .u8 1, .int .u8 56, .int .u8 2, .int .u8 57, .int .u8 49, .int .u8 28, .int .u8 3, .int .u8 61, .int .u8 58, .int .u8 42, .int .u8 50, .int .u8 38, .int .u8 29, .int .u8 17, .int .u8 4, .int .u8 62, .int .u8 47, .int .u8 59, .int .u8 36, .int .u8 45, .int .u8 43, .int .u8 51, .int .u8 22, .int .u8 53, .int .u8 39, .int .u8 33, .int .u8 30, .int .u8 24, .int .u8 18, .int .u8 12, .int .u8 5, .int .u8 63, .int .u8 55, .int .u8 48, .int .u8 27, .int .u8 60, .int .u8 41, .int .u8 37, .int .u8 16, .int .u8 46, .int .u8 35, .int .u8 44, .int .u8 21, .int .u8 52, .int .u8 32, .int .u8 23, .int .u8 11, .int .u8 54, .int .u8 26, .int .u8 40, .int .u8 15, .int .u8 34, .int .u8 20, .int .u8 31, .int .u8 10, .int .u8 25, .int .u8 14, .int .u8 19, .int .u8 9, .int .u8 13, .int .u8 8, .int .u8 7, .int .u8 6] t frozen | o => o }
theorem BitsBack_met (os : Os) : laidMet Tryd.prog Rows.bitsBackRow.laid ((BitsBack_world os).forCall (fun _ _ => 0) ⟨#[], #[.agg #[.slice none 0 0, .slice none 0 0]], []⟩).memory :=
  laidMet_of_run' 8 (by kernel_rfl) (by kernel_rfl)
theorem BitsBack_reads (os : Os) {H : Type} (enc : TypeId × Value → H) : ∃ places, DataW.whole enc Tryd.prog ((BitsBack_world os).forCall (fun _ _ => 0) ⟨#[], #[.agg #[.slice none 0 0, .slice none 0 0]], []⟩).memory Tryd.f4.params.toList Rows.bitsBackSpec.vars false #[(.agg #[.slice none 0 0, .slice none 0 0] : Value)].toList 8 = some ([.agg [.nil, .nil]], [], places) :=
  ⟨[], by kernel_rfl⟩

set_option maxRecDepth 100000 in
theorem BitsBack_lifted (os : Os) (started : os.Started) (H : Type) (enc : TypeId × Value → H) (F : Stop.Interp) :
    ReturnsInHanded {} Tryd.checked os 4 .any ((OpenSpec.ofChange Rows.bitsBackSpec).preRow enc Tryd.prog Tryd.f4 Rows.bitsBackRow.domain false Rows.bitsBackRow.laid) (((OpenSpec.ofChange Rows.bitsBackSpec).at F).post enc Tryd.prog Tryd.f4 false true false false) := by
  obtain ⟨places, hx⟩ := BitsBack_reads os enc
  refine returnsInHanded_of_row (C := Tryd.checked) (s := OpenSpec.ofChange Rows.bitsBackSpec) Tryd.own started (by kernel_rfl) Tryd.func4
    (witness_row_at (enc := enc) (C := Tryd.checked) false (BitsBack_world os) #[.agg #[.slice none 0 0, .slice none 0 0]] rfl (by kernel_rfl) (by kernel_rfl) (by kernel_rfl)
      (OpenSpec.preRow_of_cond 8 hx (by kernel_rfl) (fun k hk => by cases hk) (by kernel_rfl) (BitsBack_met os))) ?_
  intro W base args ds gs before hval hW _ _ hsz hL hS _
  exact law_step_laid 4 Tryd.f4 25 4 Rows.bitsBackSpec Tryd.params4 (by kernel_rfl) Tryd.underlying4 rfl (fun _ => rfl) (by kernel_rfl) (of_decide_eq_true (by kernel_rfl)) Rows.bitsBackRow.laid (walk_laid (.sl .bool) (.pr (.sl (.int .i64)) .unit) (by kernel_rfl) Rows.bitsBackRow.laid (fun _ h => table_of h) back_arg) W base args ds gs before hval hW hsz hL hS

theorem BitsBack_said : Rows.BitsBackSaid :=
  OpenClaim.holds_of_cond 4 Tryd.f4 rfl rfl rfl rfl rfl rfl rfl ⟨rfl, rfl, rfl, rfl, rfl⟩ rfl rfl rfl rfl rfl (by kernel_rfl) Tryd.func4 (by kernel_rfl)
    (of_decide_eq_true (by kernel_rfl)) (by unfold Func.isWrapper; first | (rw [if_pos (by decide +kernel)]; kernel_rfl) | (rw [if_neg (by decide +kernel)]; exact ⟨rfl, rfl⟩))
    (fun os started H enc _ F => by rw [OpenClaim.pre_eq_preRow]; exact BitsBack_lifted os started H enc F)

theorem BitsBack_plain (f : FuncId) (fn : Func) (hf : Tryd.pinned.checked.prog.funcNamed "lectern/lecternlaw1.BitsBack" = some f) (hfn : Tryd.pinned.checked.prog.funcs[f]? = some fn) :
    false = Tryd.pinned.checked.prog.looks [] ∧ ∀ (j : Nat) t, fn.params[j]? = some t → Tryd.pinned.checked.prog.wantsStandIn t = false := by
  obtain rfl : f = 4 := Option.some.inj ((show Tryd.prog.funcNamed "lectern/lecternlaw1.BitsBack" = some 4 by kernel_rfl).symm.trans hf) |>.symm
  obtain rfl : fn = Tryd.f4 := (Option.some.inj (Tryd.func4.symm.trans hfn)).symm
  refine ⟨by kernel_rfl, fun j t ht => ?_⟩
  rw [(Tryd.params4)] at ht
  obtain rfl : t = 25 := by simpa using Array.mem_of_getElem? ht
  exact (show Tryd.prog.wantsStandIn 25 = false by kernel_rfl)

theorem BitsBack_holds : Rows.BitsBackCardSaid :=
  Claim7.holds_tied_plain_at .later [] _ _ _ _ BitsBack_said (fun _ h => by cases h) (by kernel_rfl) (fun _ h => by cases h) bitsBack_row_tie rfl ⟨rfl, rfl⟩ (by kernel_rfl) rfl BitsBack_plain (by kernel_rfl)
#print axioms BitsBack_holds

end Go.Proofs.YtmjppicoffbdcaaDoor
