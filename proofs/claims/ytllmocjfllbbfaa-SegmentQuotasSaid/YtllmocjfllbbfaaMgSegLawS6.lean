/- Bytes of a slice as a string. -/
import Derived.Test.YtllmocjfllbbfaaMgSegLawS5
import Derived.Test.YtllmocjfllbbfaaMgSegLawS1
import Derived.Test.YtllmocjfllbbfaaMgSegLawS2
import Derived.Laws.StructEq
set_option maxRecDepth 100000
namespace Go.Proofs.Ytllmocjfllbbfaa
open Go.RowKit
open Go.ChangeShapes Go.WideShapes Go.ChangeAt
open Go.Proofs.Ytllmocjfllbbfaa.SA
theorem SegMake_e40 : elemQ Try.prog 40 = some (3, 1) := by kernel_rfl
theorem SegMake_m40 : makeQ Try.prog 40 = some (3, 8, (.int .i64 0)) := by kernel_rfl
theorem SegMake_q40 : litQ Try.prog 40 = some (3, 1, 8, (.int .i64 0)) := by kernel_rfl
theorem SegMake_k39 : callable Try.prog 39 = true := by kernel_rfl
theorem SegMake_k40 : callable Try.prog 40 = true := by kernel_rfl
theorem SegMake_l22 : (elemQ Try.prog 22).isSome = true := by kernel_rfl
theorem SegMake_e22 : elemQ Try.prog 22 = some (65, 2) := by kernel_rfl
theorem SegMake_g65 : aggQ Try.prog 65 = some true := by kernel_rfl
theorem SegMake_z65 : sizeQ Try.prog 65 = some 2 := by kernel_rfl
theorem SegMake_o65 : zeroQ Try.prog 65 = some (.agg #[.string ⟨#[]⟩, .string ⟨#[]⟩]) := by kernel_rfl
theorem SegMake_f65_1 : fieldQ Try.prog 65 1 = some 1 := by kernel_rfl
theorem SegMake_g9 : aggQ Try.prog 9 = some false := by kernel_rfl
theorem SegMake_k31 : callable Try.prog 31 = true := by kernel_rfl
theorem SegMake_k41 : callable Try.prog 41 = true := by kernel_rfl
theorem SegMake_k42 : callable Try.prog 42 = true := by kernel_rfl
theorem SegMake_k43 : callable Try.prog 43 = true := by kernel_rfl
theorem SegMake_b47_0_1_2_3 : ∀ (a0 : Option Addr) (a1 : Option Addr) (a2 a3 : Nat) (a4 : Option Addr) (a5 : Int), Try.prog.built 47 [(0, .pointer a0), (1, .slice a1 a2 a3), (2, .pointer a4), (3, .int .i64 a5)] = some #[.pointer a0, .slice a1 a2 a3, .pointer a4, .int .i64 a5] := by intros; kernel_rfl
theorem SegMake_f47_1 : fieldQ Try.prog 47 1 = some 1 := by kernel_rfl
theorem SegMake_g22 : aggQ Try.prog 22 = some false := by kernel_rfl
theorem SegMake_k44 : callable Try.prog 44 = true := by kernel_rfl
theorem SegMake_q32 : litQ Try.prog 32 = some (63, 2, 24, (.agg #[.string ⟨#[]⟩, .int .i64 0])) := by kernel_rfl
theorem SegMake_f47_0 : fieldQ Try.prog 47 0 = some 0 := by kernel_rfl
theorem SegMake_g44 : aggQ Try.prog 44 = some false := by kernel_rfl
theorem SegMake_k21 : callable Try.prog 21 = true := by kernel_rfl
theorem SegMake_l40 : (elemQ Try.prog 40).isSome = true := by kernel_rfl
theorem SegMake_g3 : aggQ Try.prog 3 = some false := by kernel_rfl
theorem SegMake_f47_2 : fieldQ Try.prog 47 2 = some 2 := by kernel_rfl
theorem SegMake_g45 : aggQ Try.prog 45 = some false := by kernel_rfl
theorem SegMake_k32 : callable Try.prog 32 = true := by kernel_rfl
theorem SegMake_f65_0 : fieldQ Try.prog 65 0 = some 0 := by kernel_rfl
theorem SegMake_b63_0_1 : ∀ (a0 : ByteArray) (a1 : Int), Try.prog.built 63 [(0, .string a0), (1, .int .i64 a1)] = some #[.string a0, .int .i64 a1] := by intros; kernel_rfl
theorem rowRange {w : World} {g : Nat} {l : List Int} (h : RowOf iV w (some ⟨g, 0, none⟩) l) : w.rangeAt g 0 (l.map iV) := fun j v hv => by
  have hj : j < l.length := by have := (List.getElem?_eq_some_iff.1 hv).1; rwa [List.length_map] at this
  obtain ⟨b, o, e, hc⟩ := h (by omega)
  cases e
  rw [hc j hj]
  rw [List.getElem?_map, List.getElem?_eq_getElem hj] at hv
  exact hv
/-! ### lengths and offsets -/
def lens (ds : List Dc) : List Int := ds.map fun d => ((d.2.size : Nat) : Int)
theorem lens_len (ds : List Dc) : (lens ds).length = ds.length := List.length_map _
theorem lens_take {ds : List Dc} {k : Nat} (h : k < ds.length) : (lens (ds.take (k + 1))).map iV = (lens (ds.take k)).map iV ++ [iV (((ds.getD k dd).2.size : Nat) : Int)] := by
  unfold lens
  rw [List.take_succ_eq_append_getElem h, List.map_append, List.map_append, getD_get h]
  rfl
theorem lens_get {ds : List Dc} {k : Nat} (h : k < (lens ds).length) : (lens ds)[k] = (((ds.getD k dd).2.size : Nat) : Int) := by
  have h2 : k < ds.length := by rwa [lens_len] at h
  rw [getD_get h2]
  simp [lens]
theorem syms_take {ds : List Dc} {k : Nat} (h : k < ds.length) : syms (ds.take (k + 1)) = syms (ds.take k) ++ txt (ds.getD k dd).2 ++ [0] := by
  rw [List.take_succ_eq_append_getElem h, syms_app, getD_get h, List.append_assoc]
  rfl
theorem cI_app (a b : List Nat) : cI (a ++ b) = cI a ++ cI b := List.map_append ..
theorem st_lens {ds : List Dc} : ∀ {k : Nat}, k ≤ ds.length → Bd.st (lens ds) k = ((dsz (ds.take k) + k : Nat) : Int)
  | 0, _ => by simp [Bd.st, dsz]
  | k + 1, h => by
    rw [Bd.st_succ (by rw [lens_len]; omega), st_lens (Nat.le_of_succ_le h), lens_get, dsz_take (by omega)]
    omega
theorem lens_gd {ds : List Dc} (h : DFit ds) : Bd.Gd (lens ds) := by
  refine ⟨fun i hi => by rw [lens_get]; omega, by rw [lens_len]; exact h.1, fun i hi => ?_⟩
  have h2 : i < ds.length := by rwa [lens_len] at hi
  have h3 := dsz_take h2
  have h4 := dsz_le (ds := ds) (i + 1)
  have h5 := h.2.2
  have h6 := h.1
  rw [lens_get, st_lens (by omega)]
  omega
theorem loc_spec : ∀ {ds : List Dc} {x : Nat}, x < (syms ds).length → (loc ds x).1 < ds.length ∧ dsz (ds.take (loc ds x).1) + (loc ds x).1 + (loc ds x).2 = x ∧ (loc ds x).2 ≤ (ds.getD (loc ds x).1 dd).2.size
  | [], x, h => by cases h
  | d :: ds, x, h => by
    rw [syms, List.length_append, List.length_cons, txt_len] at h
    unfold loc
    by_cases hx : x ≤ d.2.size
    · rw [if_pos hx]
      exact ⟨by simp, by simp [dsz], hx⟩
    · rw [if_neg hx]
      obtain ⟨h1, h2, h3⟩ := loc_spec (ds := ds) (x := x - (d.2.size + 1)) (by omega)
      refine ⟨by rw [List.length_cons]; omega, ?_, h3⟩
      simp only [List.take_succ_cons, dsz]
      omega
theorem loc_st {ds : List Dc} {x : Nat} (h : x < (syms ds).length) : Bd.st (lens ds) (loc ds x).1 ≤ (x : Int) ∧ (x : Int) < Bd.st (lens ds) ((loc ds x).1 + 1) ∧ (x : Int) - Bd.st (lens ds) (loc ds x).1 = ((loc ds x).2 : Nat) := by
  obtain ⟨h1, h2, h3⟩ := loc_spec h
  rw [st_lens (Nat.le_of_lt h1), st_lens h1, dsz_take h1]
  omega
theorem chk_syms {ds : List Dc} (h : DFit ds) : chkW 257 (cI (syms ds)) = 0 := by
  have hl := syms_len ds
  have h5 := h.2.2
  have h6 := h.1
  unfold chkW
  rw [if_neg (by omega), if_neg, if_neg (by rw [List.length_map]; omega)]
  rw [List.any_eq_true]
  rintro ⟨x, hx, hb⟩
  obtain ⟨y, hy, rfl⟩ := List.mem_map.1 hx
  have := syms_lt ds y hy
  have := of_decide_eq_true hb
  omega
/-- a segment of these documents; all that it holds lies at base or above -/
def SegAt (w : World) (base s : Nat) (ds : List Dc) : Prop := base ≤ s ∧ ∃ (x bd a : Nat) (B F : List Nat) (A : Option Addr) (c : Nat), Blk w s 47 #[.pointer (some ⟨x, 0, none⟩), .slice A ds.length c, .pointer (some ⟨bd, 0, none⟩), .int .i64 ((dsz ds : Nat) : Int)] ∧
  FmAt w base x 257 a (syms ds) B F ∧ Bd.BAt w base bd (lens ds) ∧ w.ownsRow base 65 2 (.slice A ds.length c) ds.length (ds.flatMap dV) ∧ DOrd ds ∧ DFit ds
theorem SegAt.from_ {w w' : World} {base s : Nat} {ds : List Dc} (h : SegAt w base s ds) (hF : From w w') : SegAt w' base s ds := by
  obtain ⟨h0, x, bd, a, B, F, A, c, h1, h2, h3, h4, h5⟩ := h
  exact ⟨h0, x, bd, a, B, F, A, c, h1.from_ hF, h2.from_ hF, h3.from_ hF, h4.kept_from hF, h5⟩
theorem SegAt.le {w : World} {base base2 s : Nat} {ds : List Dc} (h : SegAt w base s ds) (hl : base2 ≤ base) : SegAt w base2 s ds := by
  obtain ⟨h0, x, bd, a, B, F, A, c, h1, h2, h3, h4, h5⟩ := h
  exact ⟨by omega, x, bd, a, B, F, A, c, h1, h2.le hl, h3.le hl, own_le h4 hl, h5⟩
theorem SegAt.grown {w w' : World} {base s : Nat} {ds : List Dc} {r : Option Nat} (h : SegAt w base s ds) (hg : w.grownBy w' r) (hne : ∀ q, r = some q → q < base) : SegAt w' base s ds := by
  obtain ⟨h0, x, bd, a, B, F, A, c, h1, h2, h3, h4, h5⟩ := h
  exact ⟨h0, x, bd, a, B, F, A, c, h1.grown hg (fun q hq => by have := hne q hq; omega), h2.grown hg hne, h3.grown hg hne, own_kept h4 hg hne, h5⟩
theorem SegAt.docs {w : World} {base s : Nat} {ds : List Dc} (h : SegAt w base s ds) : DOrd ds ∧ DFit ds := by
  obtain ⟨h0, x, bd, a, B, F, A, c, h1, h2, h3, h4, h5⟩ := h
  exact h5
def NewS (w' : World) (base : Nat) (ds : List Dc) (v : Value) : Prop := (docE ds ≠ 0 ∧ v = .tuple #[.pointer none, .int .i64 (docE ds)]) ∨ (docE ds = 0 ∧ ∃ s, v = .tuple #[.pointer (some ⟨s, 0, none⟩), .int .i64 0] ∧ SegAt w' base s ds)
theorem bnew_n (A : Option Addr) (c n : Nat) (L : List Int) (w : World) (hr : RowOf iV w A L) (hG : Bd.Gd L) (hn : n = L.length) : Rt Try.prog 41 [.slice A n c] w fun v w' => (∃ b, v = .tuple #[.pointer (some ⟨b, 0, none⟩), .int .i64 0] ∧ Bd.BAt w' w.heap.size b L) ∧ From w w' := by
  subst hn
  have hl := hG.len
  refine (Bd.new_rt A c L w hr (fun x hx => ?_) (by omega)).mono fun v w' h => ?_
  · obtain ⟨i, hi, rfl⟩ := List.getElem_of_mem hx
    have h1 := hG.pos i hi
    have h2 := hG.fit i hi
    have h3 := hG.st (k := i) (by omega)
    omega
  · obtain ⟨h, hF⟩ := h
    rcases h with ⟨hne, _⟩ | ⟨_, b, rfl, hb⟩
    · exact absurd (Bd.lens0 hG) hne
    · exact ⟨⟨b, rfl, hb⟩, hF⟩
theorem fbuild_n (A : Option Addr) (c n : Nat) (ds : List Dc) (w : World) (hr : RowOf iV w A (cI (syms ds))) (hn : n = (syms ds).length) (h : DFit ds) : Rt Try.prog 42 [.int .i64 257, .slice A n c] w fun v w' => (∃ b a B F, v = .tuple #[.pointer (some ⟨b, 0, none⟩), .int .i64 0] ∧ FmAt w' w.heap.size b 257 a (syms ds) B F) ∧ From w w' := by
  have hl := syms_len ds
  have h5 := h.2.2
  have h6 := h.1
  refine (build_rt 257 A c n (cI (syms ds)) w hr (by rw [List.length_map]; exact hn) (by omega)).mono fun v w' h7 => ?_
  obtain ⟨h7, hF⟩ := h7
  refine ⟨?_, hF⟩
  rcases h7 with ⟨h8, _⟩ | ⟨_, K, b, a, L, B, F, hK, hL, _, hf, rfl⟩
  · exact absurd (chk_syms h) h8
  · obtain rfl : K = 257 := by omega
    obtain rfl := cI_inj hL
    exact ⟨b, a, B, F, rfl, hf⟩
theorem where_loc (base b x : Nat) (ds : List Dc) (w : World) (hv : Bd.BAt w base b (lens ds)) (hx : x < (syms ds).length) : Rt Try.prog 32 [.pointer (some ⟨b, 0, none⟩), .int .i64 (x : Nat)] w fun v w' => v = .tuple #[.int .i64 ((loc ds x).1 : Nat), .int .i64 ((loc ds x).2 : Nat), .int .i64 0] ∧ From w w' := by
  obtain ⟨h1, h2, h3⟩ := loc_st hx
  have := Bd.where_is base b (lens ds) w hv x (loc ds x).1 (by rw [lens_len]; exact (loc_spec hx).1) h1 h2
  rw [h3] at this
  exact this
set_option maxHeartbeats 4000000 in
theorem new_s (A : Option Addr) (c n : Nat) (ds : List Dc) (w : World) (hr : RowK 2 dV w A ds) (hn : n = ds.length) (hl : n ≤ 100000000) (hn0 : A = none → n = 0 ∧ c = 0) :
    Rt Try.prog 24 [.slice A n c] w (fun v w' => NewS w' w.heap.size ds v ∧ From w w') := by
  refine enter (n := 74) Try.func24 rfl rfl rfl ?_
  refine cd_seq (cd_region ?_)
  refine asp rfl ?_
  refine asi rfl ?_
  refine st_nil (nx_then (cd_seq (cd_seq (cd_region ?_))))
  refine mvs rfl ?_
  refine st_call SegMake_k39 (ordered_rt A c n ds _ (hr.from_ From.rfl_) hn hl) ?_
  rintro v14 w1 ⟨⟨b14, rfl, hb14⟩, E14⟩
  refine st_val (ro_not rfl) ?_
  refine st_nil (nx_then ?_)
  refine cd_cond rfl (fun Q2 => ?_) (fun Q2 => ?_)
  · with_reducible replace Q2 := bn_t Q2
    have hno : ¬ DOrd ds := fun h => by have := hb14.2 h; simp_all
    refine cd_seq (cd_region ?_)
    refine asp rfl ?_
    refine asi rfl ?_
    refine st_nil (nx_then (cd_ret (rt_then ?_)))
    refine res2 (v := .pointer _) (v' := .int _ _) rfl rfl rfl ?_
    exact ⟨.inl ⟨by rw [doc_1 hno]; decide, by rw [doc_1 hno]⟩, (From.rfl_.next E14)⟩
  with_reducible replace Q2 := bn_f Q2
  have hord : DOrd ds := hb14.1 (by simpa using Q2)
  refine cd_skip (nx_then (cd_seq (cd_region ?_)))
  refine mvs rfl ?_
  refine st_call SegMake_k40 (total_rt A c n ds _ (hr.from_ (From.rfl_.next E14)) hn hl) ?_
  rintro v18 w3 ⟨⟨m18, b18, rfl, hb18, hm18⟩, E18⟩
  refine mvt rfl ?_
  refine st_val (ro_extract rfl rfl) ?_
  refine st_val (ro_extract rfl rfl) ?_
  refine asi rfl ?_
  refine asb rfl ?_
  refine st_nil (nx_then (cd_seq (cd_seq (cd_region ?_))))
  refine mvb rfl ?_
  refine st_val (ro_not rfl) ?_
  refine st_nil (nx_then ?_)
  refine cd_cond rfl (fun Q4 => ?_) (fun Q4 => ?_)
  · with_reducible replace Q4 := bn_t Q4
    have hnf : ¬ DFit ds := fun h => by have := hb18.2 h; simp_all
    refine cd_seq (cd_region ?_)
    refine asp rfl ?_
    refine asi rfl ?_
    refine st_nil (nx_then (cd_ret (rt_then ?_)))
    refine res2 (v := .pointer _) (v' := .int _ _) rfl rfl rfl ?_
    exact ⟨.inl ⟨by rw [doc_2 hord hnf]; decide, by rw [doc_2 hord hnf]⟩, ((From.rfl_.next E14).next E18)⟩
  with_reducible replace Q4 := bn_f Q4
  have hfit : DFit ds := hb18.1 (by simpa using Q4)
  obtain rfl := hm18 (hb18.2 hfit)
  have hf1 := hfit.1
  have hf3 := hfit.2.2
  refine cd_skip (nx_then (cd_seq (cd_region ?_)))
  refine mvs rfl ?_
  refine st_val (ro_len SegMake_l22 rfl) ?_
  refine st_make0 (m := n) (base := w.heap.size) SegMake_m40 rfl rfl rfl (by omega) (by omega) (((From.rfl_.next E14).next E18).size) ?_
  intro g25 w5 E25 hb25 ho25
  refine ass rfl ?_
  refine st_nil (nx_then (cd_seq (cd_region ?_)))
  refine mvi rfl ?_
  refine mvs rfl ?_
  refine st_val (ro_len SegMake_l22 rfl) ?_
  refine st_val (ro_addN rfl rfl (by omega)) ?_
  refine st_make0 (m := dsz ds + n) (base := w.heap.size) SegMake_m40 rfl rfl rfl (by omega) (by omega) ((((From.rfl_.next E14).next E18).next E25).size) ?_
  intro g30 w6 E30 hb30 ho30
  have hap0 : Apart (some ⟨g25, 0, none⟩) (some ⟨g30, 0, none⟩) := Apart.fresh ho25 (fun q hq => by cases hq; exact Nat.le_of_eq hb30.symm)
  refine ass rfl ?_
  refine st_nil (nx_then (cd_seq (cd_seq (cd_region ?_))))
  refine mvs rfl ?_
  refine st_val (ro_len SegMake_l22 rfl) ?_
  refine mvi rfl ?_
  refine st_nil (nx_then (cd_block ?_))
  refine cd_loop (G := Nat × (Option Addr × Nat) × Option Addr × Nat) [9, 34, 35, 36, 37, 38, 39, 40, 41, 42, 43, 44, 45, 46, 47, 48, 49, 50] (fun (k, (A6, c6), A7, c7) => [(33, .int .i64 (k : Nat)), (6, .slice A6 k c6), (7, .slice A7 (syms (ds.take k)).length c7)]) (fun (k, (A6, c6), A7, c7) w' => k ≤ n ∧ w'.ownsRow w.heap.size 3 1 (.slice A6 k c6) k ((lens (ds.take k)).map iV) ∧ w'.ownsRow w.heap.size 3 1 (.slice A7 (syms (ds.take k)).length c7) (syms (ds.take k)).length ((cI (syms (ds.take k))).map iV) ∧ Apart A6 A7 ∧ From w w') (fun (k, _, _) => n - k) ((0, (some ⟨g25, 0, none⟩, n), some ⟨g30, 0, none⟩, dsz ds + n)) ⟨rfl, rfl, rfl, trivial⟩ ?_ ?_
  · exact ⟨Nat.zero_le _, ho25.kept_from E30, ho30, hap0, ((((From.rfl_.next E14).next E18).next E25).next E30)⟩
  rintro ⟨k, ⟨A6, c6⟩, A7, c7⟩ ρ7 w7 ⟨hk, ho6, ho7, hap, hB⟩
  refine cd_seq (cd_region ?_)
  refine st_val (ro_lss rfl rfl) ?_
  refine st_nil (nx_then (cd_seq ?_))
  refine cd_cond rfl (fun Q8 => ?_) (fun Q8 => ?_)
  · with_reducible replace Q8 := of_decide_eq_true Q8
    obtain ⟨bd, od, rfl, hcd⟩ := hr (by omega)
    have hil : k < ds.length := by omega
    have hce := hcd k hil
    obtain ⟨d, hd⟩ : ∃ d, ds[k] = d := ⟨_, rfl⟩
    have hdi : ds.getD k dd = d := by rw [getD_get hil, hd]
    rw [hd] at hce
    have hds : d.2.size ≤ 2048 := hfit.2.1 d (by rw [← hd]; exact List.getElem_mem hil)
    have hsy := syms_take hil
    rw [hdi] at hsy
    have hsl : (syms (ds.take (k + 1))).length = (syms (ds.take k)).length + d.2.size + 1 := by rw [hsy, List.length_append, List.length_append, txt_len]; rfl
    have hsb : (syms (ds.take k)).length ≤ 20000 := by rw [syms_len, List.length_take]; have := dsz_le (ds := ds) k; omega
    refine cd_skip (nx_then (cd_seq (cd_block (cd_seq (cd_region ?_)))))
    refine st_val (ro_indexAddrN SegMake_e22 rfl rfl (by omega)) ?_
    refine st_val (ro_loadA (cs := [_, _]) SegMake_g65 SegMake_z65 rfl (by exact rangeF hB hce)) ?_
    refine st_alloc SegMake_o65 ?_
    intro b9 w9 E9 hb9 hk9
    have hg9 : w.heap.size ≤ b9 := by rw [hb9]; exact (hB).size
    refine st_putW (vs := [_, _]) SegMake_z65 rfl rfl (by simp [Value.oneCell']) (hk9) rfl ?_
    intro w10 O10 P10
    replace ho6 := own_only3 (ho6.kept_from E9) O10 (fun q hq => by have := (own_at ho6 q hq).2; omega)
    replace ho7 := own_only3 (ho7.kept_from E9) O10 (fun q hq => by have := (own_at ho7 q hq).2; omega)
    refine st_nil (nx_then (cd_seq (cd_region ?_)))
    refine mvs rfl ?_
    refine st_val (ro_fieldAddr SegMake_f65_1 rfl) ?_
    refine st_val (ro_load SegMake_g9 rfl (by exact (P10.from_ From.rfl_).rd 1 rfl)) ?_
    refine st_val (ro_lenS (by kernel_rfl) rfl) ?_
    refine st_lit1 (v := .int _ _) SegMake_q40 rfl rfl rfl ?_
    intro b41 w11 E41 hb41 hk41
    refine st_appendL SegMake_q40 rfl (by decide) rfl (A := A6) (xs := (lens (ds.take k)).map iV) (news := [iV ((d.2.size : Nat) : Int)]) (ho6.kept_from (From.rfl_.next E41)) ((((hB.next E9).only O10 (hg9)).next E41).size) rfl rfl ⟨b41, 0, rfl, hk41.whole⟩ (by simp [Value.oneCell']) (by omega) (by omega) ?_
    intro A42 c42 w12 ho42 hg42 hL42
    have HF42 := ((((hB.next E9).only O10 (hg9)).next E41)).grew hg42 (fun k hk => (own_at (ho6.kept_from (From.rfl_.next E41)) k hk).1)
    have ho7b := own_aside (ho7.kept_from (From.rfl_.next E41)) hg42 hap
    have hap42 := hap.new (fun q hq => (own_at (ho7.kept_from (From.rfl_.next E41)) q hq).2) hL42
    have P10b := (P10.from_ (From.rfl_.next E41)).grown hg42 (own_off (ho6.kept_from (From.rfl_.next E41)) (P10.from_ (From.rfl_.next E41)) (by decide))
    refine ass rfl ?_
    refine st_nil (nx_then (cd_region ?_))
    refine mvs rfl ?_
    refine st_val (ro_fieldAddr SegMake_f65_1 rfl) ?_
    refine st_val (ro_load SegMake_g9 rfl (by exact P10b.rd 1 rfl)) ?_
    refine st_call SegMake_k31 (symb_rt d.2 _ (by omega)) ?_
    rintro v46 w13 ⟨⟨g46, rfl, hg46, hk46⟩, E46⟩
    refine st_appendL SegMake_q40 rfl (by decide) rfl (A := A7) (xs := (cI (syms (ds.take k))).map iV) (news := (cI (txt d.2)).map iV) (ho7b.kept_from (From.rfl_.next E46)) ((HF42.next E46).size) rfl (by rw [List.length_map, cI, List.length_map, txt_len, Nat.mul_one]) ⟨g46, 0, rfl, rowRange (syT_row hk46)⟩ (by simp [Value.oneCell']) (by omega) (by omega) ?_
    intro A47 c47 w14 ho47 hg47 hL47
    have HF47 := ((HF42.next E46)).grew hg47 (fun k hk => (own_at (ho7b.kept_from (From.rfl_.next E46)) k hk).1)
    have ho42a := own_aside (ho42.kept_from (From.rfl_.next E46)) hg47 hap42.symm
    have hap47 := hap42.symm.new (fun q hq => (own_at (ho42.kept_from (From.rfl_.next E46)) q hq).2) hL47
    refine st_lit1 (v := .int _ _) SegMake_q40 rfl rfl rfl ?_
    intro b48 w15 E48 hb48 hk48
    refine st_appendL SegMake_q40 rfl (by decide) rfl (A := A47) (xs := (cI (syms (ds.take k))).map iV ++ (cI (txt d.2)).map iV) (news := [iV 0]) (ho47.kept_from (From.rfl_.next E48)) ((HF47.next E48).size) rfl rfl ⟨b48, 0, rfl, hk48.whole⟩ (by simp [Value.oneCell']) (by omega) (by omega) ?_
    intro A49 c49 w16 ho49 hg49 hL49
    have HF49 := ((HF47.next E48)).grew hg49 (fun k hk => (own_at (ho47.kept_from (From.rfl_.next E48)) k hk).1)
    have ho42b := own_aside (ho42a.kept_from (From.rfl_.next E48)) hg49 hap47
    have hap49 := hap47.new (fun q hq => (own_at (ho42a.kept_from (From.rfl_.next E48)) q hq).2) hL49
    refine ass rfl ?_
    refine st_nil (nx_block (nx_then (cd_region ?_)))
    refine st_val (ro_addN (b := 1) rfl rfl (by omega)) ?_
    refine mvi rfl ?_
    refine st_nil ?_
    refine nx_cut ((k + 1, (A42, c42), A49, c49)) ⟨rfl, rfl, (by rw [hsl]; rfl), trivial⟩ (by (iterate 42 refine agr_cons rfl ?_); exact agr_rfl) ⟨?_, ?_⟩
    · exact ⟨by omega, by rw [lens_take hil, hdi]; exact ho42b, by rw [hsl, hsy, cI_app, cI_app, List.map_append, List.map_append]; exact ho49, hap49.symm, HF49⟩
    · show n - (k + 1) < n - k; omega
  with_reducible replace Q8 := of_decide_eq_false Q8
  have hkn : ds.take k = ds := List.take_of_length_le (by omega)
  refine cd_exit ?_
  refine ex_then (ex_then (ex_block (nx_then (cd_seq (cd_region ?_)))))
  refine mvs rfl ?_
  have hz53 := (hB).size
  refine st_call SegMake_k41 (bnew_n A6 c6 k (lens (ds.take k)) _ (RowOf.own ho6).2 (by rw [hkn]; exact lens_gd hfit) (by rw [lens_len, List.length_take]; omega)) ?_
  rintro v53 w17 ⟨⟨bd, rfl, hbd⟩, E53⟩
  refine mvt rfl ?_
  refine st_val (ro_extract rfl rfl) ?_
  refine st_val (ro_extract rfl rfl) ?_
  refine asp rfl ?_
  refine asi rfl ?_
  refine st_nil (nx_then (cd_seq (cd_seq (cd_region ?_))))
  refine mvi rfl ?_
  refine st_val (ro_neq rfl rfl) ?_
  refine st_nil (nx_then ?_)
  refine cd_cond rfl (fun Q18 => ?_) (fun Q18 => ?_)
  · with_reducible replace Q18 := bx_t Q18
    exfalso; omega
  with_reducible replace Q18 := bx_f Q18
  refine cd_skip (nx_then (cd_seq (cd_region ?_)))
  refine mvs rfl ?_
  have hz61 := ((hB.next E53)).size
  refine st_call SegMake_k42 (fbuild_n A7 c7 _ (ds.take k) _ ((RowOf.own ho7).2.from_ E53) rfl (by rw [hkn]; exact hfit)) ?_
  rintro v61 w19 ⟨⟨xb, a, Bs, F, rfl, hfm⟩, E61⟩
  refine mvt rfl ?_
  refine st_val (ro_extract rfl rfl) ?_
  refine st_val (ro_extract rfl rfl) ?_
  refine asp rfl ?_
  refine asi rfl ?_
  refine st_nil (nx_then (cd_seq (cd_seq (cd_region ?_))))
  refine mvi rfl ?_
  refine st_val (ro_neq rfl rfl) ?_
  refine st_nil (nx_then ?_)
  refine cd_cond rfl (fun Q20 => ?_) (fun Q20 => ?_)
  · with_reducible replace Q20 := bx_t Q20
    exfalso; omega
  with_reducible replace Q20 := bx_f Q20
  refine cd_skip (nx_then (cd_seq (cd_region ?_)))
  refine mvp rfl ?_
  refine mvs rfl ?_
  have hz69 := (((hB.next E53).next E61)).size
  refine st_call SegMake_k43 (clone_d A c n ds _ (hr.from_ ((hB.next E53).next E61)) hn hn0 hl) ?_
  rintro v69 w21 ⟨⟨A69, c69, rfl, ho69⟩, E69⟩
  refine mvp rfl ?_
  refine mvi rfl ?_
  refine st_val (ro_build (l := [(0, .tmp 67), (1, .tmp 69), (2, .tmp 70), (3, .tmp 71)]) (SegMake_b47_0_1_2_3 _ _ _ _ _ _)) ?_
  have hz73q := ((((hB.next E53).next E61).next E69)).size
  refine st_box (v := .agg _) rfl ?_
  intro b73 w22 E73 hb73 hk73
  have hz73 : w.heap.size ≤ b73 := by rw [hb73]; exact hz73q
  refine asp rfl ?_
  refine asi rfl ?_
  refine st_nil (nx_then (cd_ret ?_))
  refine res2 (v := .pointer _) (v' := .int _ _) rfl rfl rfl ?_
  subst hn
  rw [hkn] at hfm hbd
  exact ⟨.inr ⟨doc_0 hord hfit, b73, rfl, ⟨hz73, xb, bd, a, Bs, F, A69, c69, hk73, (hfm.from_ (E69.next E73)).le hz61, (hbd.from_ (E61.next (E69.next E73))).le hz53, own_le (ho69.kept_from E73) hz69, hord, hfit⟩⟩, ((((hB.next E53).next E61).next E69).next E73)⟩
set_option maxHeartbeats 1000000 in
theorem doc_rt (base s : Nat) (ds : List Dc) (w : World) (hs : SegAt w base s ds) (id : ByteArray) :
    Rt Try.prog 25 [.pointer (some ⟨s, 0, none⟩), .string id] w (fun v w' => ((∃ i, i < ds.length ∧ (ds.getD i dd).1 = id ∧ v = .tuple #[.string (ds.getD i dd).2, .int .i64 0]) ∨ ((∀ i, i < ds.length → (ds.getD i dd).1 ≠ id) ∧ v = .tuple #[.string ⟨#[]⟩, .int .i64 3])) ∧ From w w') := by
  obtain ⟨hb0, x, bd, a, B, F, A, c, hI, hf, hb, ho, hO, hD⟩ := hs
  have hDl := hD.1
  have hrD := (RowK.own dV_len (by decide) ho).2
  refine enter (n := 27) Try.func25 rfl rfl rfl ?_
  refine cd_seq (cd_region ?_)
  refine asg rfl ?_
  refine asi rfl ?_
  refine st_nil (nx_then (cd_seq (cd_region ?_)))
  refine mvp rfl ?_
  refine st_val (ro_nilCheck rfl) ?_
  refine st_val (ro_fieldAddr SegMake_f47_1 rfl) ?_
  refine st_val (ro_load SegMake_g22 rfl (by exact (hI.from_ From.rfl_).rd 1 rfl)) ?_
  refine mvg rfl ?_
  refine st_call SegMake_k44 (docSearch_rt A c ds.length ds _ (hrD.from_ From.rfl_) rfl (by omega) id hO) ?_
  rintro v14 w1 ⟨⟨i, fd, rfl, hi1, hlo, hhi, hfd⟩, E14⟩
  refine mvt rfl ?_
  refine st_val (ro_extract rfl rfl) ?_
  refine st_val (ro_extract rfl rfl) ?_
  refine asi rfl ?_
  refine asb rfl ?_
  refine st_nil (nx_then (cd_seq (cd_seq (cd_region ?_))))
  refine mvb rfl ?_
  refine st_val (ro_not rfl) ?_
  refine st_nil (nx_then ?_)
  refine cd_cond rfl (fun Q2 => ?_) (fun Q2 => ?_)
  · with_reducible replace Q2 := bn_t Q2
    have hnf : ∀ q, q < ds.length → (ds.getD q dd).1 ≠ id := fun q hq e => by
      have h9 : ¬ (i < ds.length ∧ (ds.getD i dd).1 = id) := fun h => by have := hfd.2 h; simp_all
      rcases Nat.lt_trichotomy q i with a1 | a1 | a1
      · have := hlo q a1; rw [e] at this; exact sLt_irrefl _ this
      · subst a1; exact h9 ⟨hq, e⟩
      · have h7 := hO.lt a1 hq
        rw [e] at h7
        exact hhi i (Nat.le_refl _) (by omega) h7
    refine cd_seq (cd_region ?_)
    refine asg rfl ?_
    refine asi rfl ?_
    refine st_nil (nx_then (cd_ret (rt_then ?_)))
    refine res2 (v := .string _) (v' := .int _ _) rfl rfl rfl ?_
    exact ⟨.inr ⟨hnf, rfl⟩, (From.rfl_.next E14)⟩
  with_reducible replace Q2 := bn_f Q2
  obtain ⟨hil, hie⟩ := hfd.1 (by simpa using Q2)
  obtain ⟨bD, oD, rfl, hcD⟩ := hrD (by omega)
  have hce := hcD i hil 1 _ rfl
  rw [← getD_get hil] at hce
  refine cd_skip (nx_then (cd_seq (cd_region ?_)))
  refine mvp rfl ?_
  refine st_val (ro_nilCheck rfl) ?_
  refine st_val (ro_fieldAddr SegMake_f47_1 rfl) ?_
  refine st_val (ro_load SegMake_g22 rfl (by exact (hI.from_ (From.rfl_.next E14)).rd 1 rfl)) ?_
  refine mvi rfl ?_
  refine st_val (ro_indexAddrN SegMake_e22 rfl rfl (by omega)) ?_
  refine st_val (ro_fieldAddr SegMake_f65_1 rfl) ?_
  refine st_val (ro_load SegMake_g9 rfl (by exact cellF (From.rfl_.next E14) hce)) ?_
  refine asg rfl ?_
  refine asi rfl ?_
  refine st_nil (nx_then (cd_ret ?_))
  refine res2 (v := .string _) (v' := .int _ _) rfl rfl rfl ?_
  exact ⟨.inl ⟨i, hil, hie, rfl⟩, (From.rfl_.next E14)⟩
/-- what is wrong with a pattern -/
def patE (p : ByteArray) : Int := if p.size = 0 then 5 else if 4096 < p.size then 2 else 0
/-- what Search tells -/
def segH (ds : List Dc) (p : ByteArray) : List Ht := if patE p = 0 then hits ds p else []
theorem txt_ne {p : ByteArray} (h : p.size ≠ 0) : txt p ≠ [] := fun e => h (by rw [← txt_len, e]; rfl)
theorem size_zero {p : ByteArray} (h : p = ⟨#[]⟩) : p.size = 0 := by rw [h]; rfl
theorem size_zero' {p : ByteArray} (h : p.size = 0) : p = ⟨#[]⟩ := by
  obtain ⟨l⟩ := p
  congr 1
  exact Array.eq_empty_of_size_eq_zero h
theorem hit_at {ds : List Dc} {L : List Nat} {k : Nat} (h : k < L.length) : (((L.take (k + 1)).map (hitAt ds)).flatMap hV) = (((L.take k).map (hitAt ds)).flatMap hV) ++ hV (hitAt ds (L.getD k 0)) := by
  rw [List.take_succ_eq_append_getElem h, List.map_append, List.flatMap_append, List.getD_eq_getElem?_getD, List.getElem?_eq_getElem h]
  simp
theorem find_p (base b K a c n : Nat) (L B F : List Nat) (A : Option Addr) (p : List Nat) (w : World) (hf : FmAt w base b K a L B F) (hr : RowOf iV w A (cI p)) (hn : n = p.length) (hl : n ≤ 1000000) (h0 : p ≠ []) (hK : ∀ x ∈ p, x < K) : Rt Try.prog 21 [.pointer (some ⟨b, 0, none⟩), .slice A n c] w fun v w' => (∃ A' c', v = .tuple #[.slice A' (fndL L p).length c', .int .i64 0] ∧ RowOf iV w' A' (cI (fndL L p))) ∧ From w w' := by
  refine (find_d base b K a L B F w hf A c n (cI p) hr (by rw [List.length_map]; exact hn) hl).mono fun v w' h => ?_
  have ha := ask_good h0 hK
  have e : fdL K L (cI p) = fndL L p := by unfold fdL; rw [if_pos ha, cI_toNat]
  rw [ha, e] at h
  obtain ⟨⟨A', c', rfl, ho⟩, hF⟩ := h
  exact ⟨⟨A', c', rfl, (RowOf.own ho).2⟩, hF⟩
set_option maxHeartbeats 3000000 in
theorem search_rt (base s : Nat) (ds : List Dc) (w : World) (hs : SegAt w base s ds) (p : ByteArray) (hp : p.size ≤ 140737488351232) :
    Rt Try.prog 12 [.pointer (some ⟨s, 0, none⟩), .string p] w (fun v w' => (∃ A' c', v = .tuple #[.slice A' (segH ds p).length c', .int .i64 (patE p)] ∧ w'.ownsRow w.heap.size 63 2 (.slice A' (segH ds p).length c') (segH ds p).length ((segH ds p).flatMap hV)) ∧ From w w') := by
  have hss := hs
  obtain ⟨hb0, x, bd, a, B, F, A, c, hI, hf, hb, ho, hO, hD⟩ := hs
  have hDl := hD.1
  have hrD := (RowK.own dV_len (by decide) ho).2
  have hsl := syms_len ds
  have hD3 := hD.2.2
  refine enter (n := 75) Try.func12 rfl rfl rfl ?_
  refine cd_seq (cd_region ?_)
  refine ass rfl ?_
  refine asi rfl ?_
  refine st_nil (nx_then (cd_seq (cd_seq (cd_region ?_))))
  refine mvg rfl ?_
  refine st_val (ro_eqlS rfl rfl) ?_
  refine st_nil (nx_then ?_)
  refine cd_cond rfl (fun Q1 => ?_) (fun Q1 => ?_)
  · with_reducible replace Q1 := be_t Q1
    have hp0 : p.size = 0 := size_zero (str_eq.1 (by simpa using Q1))
    refine cd_seq (cd_region ?_)
    refine ass rfl ?_
    refine asi rfl ?_
    refine st_nil (nx_then (cd_ret (rt_then ?_)))
    refine res2 (v := .slice _ _ _) (v' := .int _ _) rfl rfl rfl ?_
    have hE : patE p = 5 := by unfold patE; rw [if_pos hp0]
    have hH : segH ds p = [] := by unfold segH; rw [hE]; rfl
    exact ⟨⟨none, 0, by rw [hH, hE]; rfl, by rw [hH]; exact World.ownsRow_nil _ _ _ _⟩, From.rfl_⟩
  with_reducible replace Q1 := be_f Q1
  have hp0 : p.size ≠ 0 := fun h9 => (str_ne.1 (by simpa using Q1)) (size_zero' h9)
  refine cd_skip (nx_then (cd_seq (cd_seq (cd_region ?_))))
  refine mvg rfl ?_
  refine st_val (ro_lenS (by kernel_rfl) rfl) ?_
  refine st_val (ro_gtr rfl rfl) ?_
  refine st_nil (nx_then ?_)
  refine cd_cond rfl (fun Q2 => ?_) (fun Q2 => ?_)
  · with_reducible replace Q2 := of_decide_eq_true Q2
    refine cd_seq (cd_region ?_)
    refine ass rfl ?_
    refine asi rfl ?_
    refine st_nil (nx_then (cd_ret (rt_then ?_)))
    refine res2 (v := .slice _ _ _) (v' := .int _ _) rfl rfl rfl ?_
    have hE : patE p = 2 := by unfold patE; rw [if_neg hp0, if_pos (by omega)]
    have hH : segH ds p = [] := by unfold segH; rw [hE]; rfl
    exact ⟨⟨none, 0, by rw [hH, hE]; rfl, by rw [hH]; exact World.ownsRow_nil _ _ _ _⟩, From.rfl_⟩
  with_reducible replace Q2 := of_decide_eq_false Q2
  refine cd_skip (nx_then (cd_seq (cd_seq (cd_region ?_))))
  refine mvp rfl ?_
  refine st_val (ro_nilCheck rfl) ?_
  refine st_val (ro_fieldAddr SegMake_f47_1 rfl) ?_
  refine st_val (ro_load SegMake_g22 rfl (by exact (hI.from_ From.rfl_).rd 1 rfl)) ?_
  refine st_val (ro_len SegMake_l22 rfl) ?_
  refine st_val (ro_eql rfl rfl) ?_
  refine st_nil (nx_then ?_)
  refine cd_cond rfl (fun Q3 => ?_) (fun Q3 => ?_)
  · with_reducible replace Q3 := of_decide_eq_true Q3
    refine cd_seq (cd_region ?_)
    refine ass rfl ?_
    refine asi rfl ?_
    refine st_nil (nx_then (cd_ret (rt_then ?_)))
    refine res2 (v := .slice _ _ _) (v' := .int _ _) rfl rfl rfl ?_
    obtain rfl : ds = [] := List.eq_nil_of_length_eq_zero (by omega)
    have hpE : patE p = 0 := by unfold patE; rw [if_neg hp0, if_neg (by omega)]
    exact ⟨⟨none, 0, by unfold segH; rw [hpE]; rfl, by unfold segH; rw [hpE]; exact World.ownsRow_nil _ _ _ _⟩, From.rfl_⟩
  with_reducible replace Q3 := of_decide_eq_false Q3
  have hpE : patE p = 0 := by unfold patE; rw [if_neg hp0, if_neg (by omega)]
  refine cd_skip (nx_then (cd_seq ?_))
  apply cd_drawn 12 [(26, eqp _), (27, eqp _), (28, eqp _), (29, eqp _), (30, eqp _), (31, fun v w' => ∃ g, v = .slice (some ⟨g, 0, none⟩) p.size p.size ∧ RowOf iV w' (some ⟨g, 0, none⟩) (cI (txt p))), (32, fun v w' => ∃ A' c', v = .tuple #[.slice A' (fndL (syms ds) (txt p)).length c', .int .i64 0] ∧ RowOf iV w' A' (cI (fndL (syms ds) (txt p)))), (25, fun v w' => ∃ A' c', v = .tuple #[.slice A' (fndL (syms ds) (txt p)).length c', .int .i64 0] ∧ RowOf iV w' A' (cI (fndL (syms ds) (txt p)))), (33, fun v w' => ∃ A' c', v = .slice A' (fndL (syms ds) (txt p)).length c' ∧ RowOf iV w' A' (cI (fndL (syms ds) (txt p)))), (34, eqp _), (6, fun v w' => ∃ A' c', v = .slice A' (fndL (syms ds) (txt p)).length c' ∧ RowOf iV w' A' (cI (fndL (syms ds) (txt p)))), (7, eqp _)] (by kernel_rfl) (by kernel_rfl) ⟨eqp_mono _, eqp_mono _, eqp_mono _, eqp_mono _, eqp_mono _, (fun _ _ _ hF ⟨g, h1, h2⟩ => ⟨g, h1, h2.from_ hF⟩), (fun _ _ _ hF ⟨A2, c2, h1, h2⟩ => ⟨A2, c2, h1, h2.from_ hF⟩), (fun _ _ _ hF ⟨A2, c2, h1, h2⟩ => ⟨A2, c2, h1, h2.from_ hF⟩), (fun _ _ _ hF ⟨A2, c2, h1, h2⟩ => ⟨A2, c2, h1, h2.from_ hF⟩), eqp_mono _, (fun _ _ _ hF ⟨A2, c2, h1, h2⟩ => ⟨A2, c2, h1, h2.from_ hF⟩), eqp_mono _, trivial⟩
  case hop =>
   refine ⟨?_, ?_⟩
   · intro w5 D5
     show OpOK _ _ _ _ _ _ _
     exact ok_pure (ro_move (v := .pointer _) rfl) rfl
   refine ⟨?_, ?_⟩
   · intro w6 D6
     rintro _ rfl
     show OpOK _ _ _ _ _ _ _
     exact ok_pure (ro_nilCheck rfl) rfl
   refine ⟨?_, ?_⟩
   · intro w7 D7
     rintro _ rfl
     show OpOK _ _ _ _ _ _ _
     exact ok_pure (ro_fieldAddr SegMake_f47_0 rfl) rfl
   refine ⟨?_, ?_⟩
   · intro w8 D8
     rintro _ rfl
     show OpOK _ _ _ _ _ _ _
     exact ok_pure (ro_load SegMake_g44 rfl (by exact (hI.from_ (From.rfl_.next D8)).rd 0 rfl)) rfl
   refine ⟨?_, ?_⟩
   · intro w9 D9
     show OpOK _ _ _ _ _ _ _
     exact ok_pure (ro_move (v := .string _) rfl) rfl
   refine ⟨?_, ?_⟩
   · intro w10 D10
     rintro _ rfl
     show OpOK _ _ _ _ _ _ _
     refine ok_call SegMake_k31 ((symb_rt p _ (by omega)).mono ?_)
     rintro v w2 ⟨⟨g, rfl, hg, hk⟩, E⟩
     exact ⟨E, g, rfl, syT_row hk⟩
   refine ⟨?_, ?_⟩
   · intro w11 D11
     rintro _ rfl v11_31 ⟨g31, rfl, hr31⟩
     show OpOK _ _ _ _ _ _ _
     refine ok_call SegMake_k21 ((find_p base x 257 a p.size p.size (syms ds) B F (some ⟨g31, 0, none⟩) (txt p) _ (hf.from_ (From.rfl_.next D11)) hr31 (txt_len p).symm (by omega) (txt_ne hp0) (txt_lt p)).mono ?_)
     rintro v w2 ⟨⟨A3, c3, rfl, hr3⟩, E⟩
     exact ⟨E, A3, c3, rfl, hr3⟩
   refine ⟨?_, ?_⟩
   · intro w12 D12
     rintro v12_32 ⟨A32, c32, rfl, hr32⟩
     show OpOK _ _ _ _ _ _ _
     exact ok_val (ro_move (v := .tuple _) rfl) From.rfl_ ⟨_, _, rfl, hr32⟩
   refine ⟨?_, ?_⟩
   · intro w13 D13
     rintro v13_25 ⟨A32, c32, rfl, hr32⟩
     show OpOK _ _ _ _ _ _ _
     exact ok_val (ro_extract rfl rfl) From.rfl_ ⟨_, _, rfl, hr32⟩
   refine ⟨?_, ?_⟩
   · intro w14 D14
     rintro v14_25 ⟨A32, c32, rfl, hr32⟩
     show OpOK _ _ _ _ _ _ _
     exact ok_pure (ro_extract rfl rfl) rfl
   refine ⟨?_, ?_⟩
   · intro w15 D15
     rintro v15_33 ⟨A32, c32, rfl, hr32⟩
     show OpOK _ _ _ _ _ _ _
     exact ok_val (ro_assign rfl) From.rfl_ ⟨_, _, rfl, hr32⟩
   refine ⟨?_, ?_⟩
   · intro w16 D16
     rintro _ rfl
     show OpOK _ _ _ _ _ _ _
     exact ok_pure (ro_assign (v := .int _ _) rfl) rfl
   exact trivial
  case hend =>
   intro w17 D17
   rintro _ rfl _ rfl _ rfl _ rfl _ rfl v31 ⟨g31, rfl, hr31⟩ v32 ⟨A32, c32, rfl, hr32⟩ v25 ⟨A32, c32, rfl, hr32⟩ v33 ⟨A32, c32, rfl, hr32⟩ _ rfl v6 ⟨A32, c32, rfl, hr32⟩ _ rfl
   show St _ _ _ _ _ _ _
   obtain ⟨W7, hW7⟩ : ∃ W, W = w17 := ⟨_, rfl⟩
   have hB7 : From w W7 := by rw [hW7]; exact (From.rfl_.next D17)
   have hr6 : RowOf iV W7 A32 (cI (fndL (syms ds) (txt p))) := by rw [hW7]; exact hr32
   have hnl : (fndL (syms ds) (txt p)).length ≤ (syms ds).length := fndTo_le
   refine st_nil (nx_then (cd_seq (cd_seq (cd_region ?_))))
   refine mvi rfl ?_
   refine st_val (ro_neq rfl rfl) ?_
   refine st_nil (nx_then ?_)
   refine cd_cond rfl (fun Q18 => ?_) (fun Q18 => ?_)
   · with_reducible replace Q18 := bx_t Q18
     exfalso; omega
   with_reducible replace Q18 := bx_f Q18
   refine cd_skip (nx_then (cd_seq (cd_region ?_)))
   refine mvs rfl ?_
   refine st_val (ro_len SegMake_l40 rfl) ?_
   refine st_make0K (m := (fndL (syms ds) (txt p)).length) (base := W7.heap.size) SegMake_q32 rfl rfl (by omega) (by omega) (by rw [hW7]; exact Nat.le_refl _) ?_
   intro g40 w19 E40 hb40 ho40
   refine ass rfl ?_
   refine st_nil (nx_then (cd_seq (cd_seq (cd_region ?_))))
   refine mvs rfl ?_
   refine st_val (ro_len SegMake_l40 rfl) ?_
   refine mvi rfl ?_
   refine st_nil (nx_then (cd_block ?_))
   refine cd_loop (G := Nat × Option Addr × Nat) [4, 5, 10, 11, 12, 13, 44, 45, 46, 47, 48, 49, 50, 51, 52, 53, 54, 55, 56, 57, 58, 59, 60, 61, 62, 63, 64, 65, 66, 67, 68, 69, 70, 71, 72, 73] (fun (k, A8, c8) => [(43, .int .i64 (k : Nat)), (8, .slice A8 k c8)]) (fun (k, A8, c8) w' => k ≤ (fndL (syms ds) (txt p)).length ∧ w'.ownsRow W7.heap.size 63 2 (.slice A8 k c8) k ((((fndL (syms ds) (txt p)).take k).map (hitAt ds)).flatMap hV) ∧ From W7 w') (fun (k, _, _) => (fndL (syms ds) (txt p)).length - k) ((0, some ⟨g40, 0, none⟩, (fndL (syms ds) (txt p)).length)) ⟨rfl, rfl, trivial⟩ ?_ ?_
   · exact ⟨Nat.zero_le _, by simpa using ho40, by rw [hW7]; exact E40⟩
   rintro ⟨k, A8, c8⟩ ρ20 w20 ⟨hk, ho8, hBz⟩
   refine cd_seq (cd_region ?_)
   refine st_val (ro_lss rfl rfl) ?_
   refine st_nil (nx_then (cd_seq ?_))
   refine cd_cond rfl (fun Q21 => ?_) (fun Q21 => ?_)
   · with_reducible replace Q21 := of_decide_eq_true Q21
     obtain ⟨bN, oN, rfl, hcN⟩ := rowD hr6 (by omega)
     have hxk := hcN k (by omega)
     have hxm := mem_fndL.1 (show (fndL (syms ds) (txt p)).getD k 0 ∈ (fndL (syms ds) (txt p)) by rw [List.getD_eq_getElem?_getD, List.getElem?_eq_getElem (show k < (fndL (syms ds) (txt p)).length by omega)]; exact List.getElem_mem _)
     have hxl := hxm.1
     obtain ⟨hq1, hq2, hq3⟩ := loc_spec hxl
     obtain ⟨bD, oD, rfl, hcD⟩ := hrD (by omega)
     have hce := hcD _ hq1 0 _ rfl
     rw [← getD_get hq1] at hce
     refine cd_skip (nx_then (cd_seq (cd_block (cd_seq (cd_region ?_)))))
     refine st_val (ro_indexAddr1 SegMake_e40 rfl rfl (by omega)) ?_
     refine st_val (ro_load SegMake_g3 rfl (by exact cellF (hBz.next From.rfl_) hxk)) ?_
     refine asi rfl ?_
     refine st_nil (nx_then (cd_seq (cd_region ?_)))
     refine mvp rfl ?_
     refine st_val (ro_nilCheck rfl) ?_
     refine st_val (ro_fieldAddr SegMake_f47_2 rfl) ?_
     refine st_val (ro_load SegMake_g45 rfl (by exact (hI.from_ (hB7.next hBz)).rd 2 rfl)) ?_
     refine mvi rfl ?_
     refine st_call SegMake_k32 (where_loc base bd ((fndL (syms ds) (txt p)).getD k 0) ds _ (hb.from_ (hB7.next hBz)) hxl) ?_
     rintro v53 w22 ⟨rfl, E53⟩
     refine mvt rfl ?_
     refine st_val (ro_extract rfl rfl) ?_
     refine st_val (ro_extract rfl rfl) ?_
     refine st_val (ro_extract rfl rfl) ?_
     refine asi rfl ?_
     refine asi rfl ?_
     refine asi rfl ?_
     refine st_nil (nx_then (cd_seq (cd_seq (cd_region ?_))))
     refine mvi rfl ?_
     refine st_val (ro_neq rfl rfl) ?_
     refine st_nil (nx_then ?_)
     refine cd_cond rfl (fun Q23 => ?_) (fun Q23 => ?_)
     · with_reducible replace Q23 := bx_t Q23
       exfalso; omega
     with_reducible replace Q23 := bx_f Q23
     refine cd_skip (nx_then (cd_region ?_))
     refine mvs rfl ?_
     refine mvp rfl ?_
     refine st_val (ro_nilCheck rfl) ?_
     refine st_val (ro_fieldAddr SegMake_f47_1 rfl) ?_
     refine st_val (ro_load SegMake_g22 rfl (by exact (hI.from_ ((hB7.next hBz).next E53)).rd 1 rfl)) ?_
     refine mvi rfl ?_
     refine st_val (ro_indexAddrN SegMake_e22 rfl rfl (by omega)) ?_
     refine st_val (ro_fieldAddr SegMake_f65_0 rfl) ?_
     refine st_val (ro_load SegMake_g9 rfl (by exact cellF ((hB7.next hBz).next E53) hce)) ?_
     refine mvi rfl ?_
     refine st_val (ro_build (l := [(0, .tmp 68), (1, .tmp 69)]) (SegMake_b63_0_1 _ _)) ?_
     refine st_litK2 SegMake_q32 rfl rfl rfl ?_
     intro b71 w24 E71 hb71 hk71
     refine st_appendB SegMake_q32 rfl (by decide) rfl (A := A8) (xs := (((fndL (syms ds) (txt p)).take k).map (hitAt ds)).flatMap hV) (news := hV (hitAt ds ((fndL (syms ds) (txt p)).getD k 0))) (ho8.kept_from ((From.rfl_.next E53).next E71)) ((hBz.next ((From.rfl_.next E53).next E71)).size) rfl rfl (fun _ => ⟨b71, 0, rfl, hk71.whole⟩) (fun h => by cases h) (by simp [hV, Value.oneCell']) (by omega) (by omega) ?_
     intro A72 c72 w25 ho72 hg72
     have HF72 := (hBz.next ((From.rfl_.next E53).next E71)).grew hg72 (fun k hk => (own_at (ho8.kept_from ((From.rfl_.next E53).next E71)) k hk).1)
     refine ass rfl ?_
     refine st_nil (nx_block (nx_then (cd_region ?_)))
     refine st_val (ro_addN (b := 1) rfl rfl (by omega)) ?_
     refine mvi rfl ?_
     refine st_nil ?_
     refine nx_cut ((k + 1, A72, c72)) ⟨rfl, rfl, trivial⟩ (by (iterate 73 refine agr_cons rfl ?_); exact agr_rfl) ⟨?_, ?_⟩
     · exact ⟨by omega, by rw [hit_at (by omega)]; exact ho72, HF72⟩
     · show (fndL (syms ds) (txt p)).length - (k + 1) < (fndL (syms ds) (txt p)).length - k; omega
   with_reducible replace Q21 := of_decide_eq_false Q21
   refine cd_exit ?_
   refine ex_then (ex_then (ex_block (nx_then (cd_seq (cd_region ?_)))))
   refine mvs rfl ?_
   refine ass rfl ?_
   refine asi rfl ?_
   refine st_nil (nx_then (cd_ret ?_))
   refine res2 (v := .slice _ _ _) (v' := .int _ _) rfl rfl rfl ?_
   obtain rfl : k = (fndL (syms ds) (txt p)).length := by omega
   have hh : segH ds p = (fndL (syms ds) (txt p)).map (hitAt ds) := by unfold segH; rw [if_pos hpE, fnd_pls, hits_loc (txt_ne hp0)]
   rw [List.take_length] at ho8
   rw [hh, List.length_map, hpE]
   exact ⟨⟨A8, c8, rfl, own_le ho8 hB7.size⟩, (hB7.next hBz)⟩
end Go.Proofs.Ytllmocjfllbbfaa

namespace Go.Proofs.Ytllmocjfllbbfaa
open Go.RowKit
theorem toList_iff {a b : ByteArray} : a.toList = b.toList ↔ a = b := ⟨str_inj, fun h => by rw [h]⟩
theorem eqDc (a b : Dc) (w : World) : (Op.equalIn 10000 65 (.agg (dV a).toArray) (.agg (dV b).toArray)).run Try.prog w = .ok (decide (a = b)) w := by
  have u9 := Try.underlying9
  have a9 := Try.isAgg9
  have z9 := Try.sizeOf9
  have hS : Try.prog.underlying 65 = some (.struct (Try.prog.fieldsOf 65)) := by kernel_rfl
  have hp : Try.prog.stoodInHeld 65 = false := by kernel_rfl
  obtain ⟨a1, a2⟩ := a
  obtain ⟨b1, b2⟩ := b
  show (Op.equalIn 10000 65 (.agg #[.string a1, .string a2]) (.agg #[.string b1, .string b2])).run Try.prog w = _
  rw [show (10000 : Nat) = 9999 + 1 from rfl, run_equalIn_agg w 9999 65 _ _ hS hp]
  simp only [Program.fieldsOf, Try.underlying65 ]
  go_simp
  simp only [toList_iff]
  by_cases h1 : a1 = b1 <;> by_cases h2 : a2 = b2 <;> simp [h1, h2]
theorem eqHt (a b : Ht) (w : World) : (Op.equalIn 10000 63 (.agg (hV a).toArray) (.agg (hV b).toArray)).run Try.prog w = .ok (decide (a = b)) w := by
  have u3 := Try.underlying3
  have a3 := Try.isAgg3
  have z3 := Try.sizeOf3
  have u9 := Try.underlying9
  have a9 := Try.isAgg9
  have z9 := Try.sizeOf9
  have hS : Try.prog.underlying 63 = some (.struct (Try.prog.fieldsOf 63)) := by kernel_rfl
  have hp : Try.prog.stoodInHeld 63 = false := by kernel_rfl
  obtain ⟨a1, a2⟩ := a
  obtain ⟨b1, b2⟩ := b
  show (Op.equalIn 10000 63 (.agg #[.string a1, .int .i64 a2]) (.agg #[.string b1, .int .i64 b2])).run Try.prog w = _
  rw [show (10000 : Nat) = 9999 + 1 from rfl, run_equalIn_agg w 9999 63 _ _ hS hp]
  simp only [Program.fieldsOf, Try.underlying63 ]
  go_simp
  simp only [toList_iff]
  by_cases h1 : a1 = b1 <;> by_cases h2 : a2 = b2 <;> simp [h1, h2]
section
variable {ρ : Operand → Value} {w : World} {yt : TypeId} {x y : Operand}
theorem ro_neqHt {a b : Ht} (hx : ρ x = .agg (hV a).toArray) (hy : ρ y = .agg (hV b).toArray) : RO Try.prog ρ (.binOp .neq 63 x y yt) w (.bool (!decide (a = b))) w := by
  refine ro_bin hx hy (run_eqGuard_agg w _ _ _ _ _ _ (by kernel_rfl)) ?_
  rw [run_neq_struct, eqHt]
  rfl
end
end Go.Proofs.Ytllmocjfllbbfaa

namespace Go.Proofs.Ytllmocjfllbbfaa
open Go.RowKit Go.ChangeShapes Go.WideShapes Go.ChangeAt
section
variable {P : Program} {ρ : Operand → Value} {x : Operand} {t : TypeId} {s : ByteArray} {w : World}
/-- a part of a string; the bounds are casts -/
theorem ro_cutS {lo hi : Option Operand} {l h : Nat} (ht : P.underlying t = some .string) (hx : ρ x = .string s) (hl : (lo = none ∧ l = 0) ∨ ∃ y k i, lo = some y ∧ ρ y = .int k i ∧ i = (l : Int)) (hh : (hi = none ∧ h = s.size) ∨ ∃ y k i, hi = some y ∧ ρ y = .int k i ∧ i = (h : Int)) (h1 : l ≤ h) (h2 : h ≤ s.size) :
    RO P ρ (.slice t x lo hi none) w (.string (s.extract l h)) w := fun _ _ _ _ _ => by
  have e : ∀ (lo hi : Option Value), ((lo = none ∧ l = 0) ∨ ∃ k, lo = some (.int k (l : Nat))) → ((hi = none ∧ h = s.size) ∨ ∃ k, hi = some (.int k (h : Nat))) → (Instr.sliceAt t (.string s) lo hi none).run P w = .ok (.string (s.extract l h)) w := by
    intro lo hi hl hh
    rw [run_sliceAt_string w t _ _ _ _ ht]
    have c1 : 0 ≤ ((h : Nat) : Int) ∧ ((h : Nat) : Int) ≤ s.size := ⟨by omega, by omega⟩
    have c2 : 0 ≤ ((l : Nat) : Int) ∧ ((l : Nat) : Int) ≤ h := ⟨by omega, by omega⟩
    rcases hl with ⟨rfl, rfl⟩ | ⟨k1, rfl⟩ <;> rcases hh with ⟨rfl, rfl⟩ | ⟨k2, rfl⟩
    · simp [Instr.slice, Instr.sliceBounds, run_underlying ht]
    · simp [Instr.slice, Instr.sliceBounds, Instr.sliceBound, asIntOf, run_underlying ht, h2]
    · simp [Instr.slice, Instr.sliceBounds, Instr.sliceBound, asIntOf, run_underlying ht, h1]
    · simp [Instr.slice, Instr.sliceBounds, Instr.sliceBound, asIntOf, run_underlying ht, h1, h2]
  rcases hl with ⟨rfl, rfl⟩ | ⟨y1, k1, _, rfl, hy1, rfl⟩ <;> rcases hh with ⟨rfl, rfl⟩ | ⟨y2, k2, _, rfl, hy2, rfl⟩
  · simp only [execOp, hx, Option.map_none, Sem.run_bind]
    rw [e _ _ (.inl ⟨rfl, rfl⟩) (.inl ⟨rfl, rfl⟩)]; rfl
  · simp only [execOp, hx, hy2, Option.map_none, Option.map_some, Sem.run_bind]
    rw [e _ _ (.inl ⟨rfl, rfl⟩) (.inr ⟨_, rfl⟩)]; rfl
  · simp only [execOp, hx, hy1, Option.map_none, Option.map_some, Sem.run_bind]
    rw [e _ _ (.inr ⟨_, rfl⟩) (.inl ⟨rfl, rfl⟩)]; rfl
  · simp only [execOp, hx, hy1, hy2, Option.map_none, Option.map_some, Sem.run_bind]
    rw [e _ _ (.inr ⟨_, rfl⟩) (.inr ⟨_, rfl⟩)]; rfl
end
theorem ext_list {s : ByteArray} {l h : Nat} : (s.extract l h).toList = (s.toList.drop l).take (h - l) := by
  simp only [Lib.toList_data, ByteArray.data_extract, Array.toList_extract, List.extract_eq_take_drop]
theorem pre_iff_take {α : Type} [BEq α] [LawfulBEq α] {q L : List α} : q.isPrefixOf L = true ↔ L.take q.length = q := by
  rw [List.isPrefixOf_iff_prefix, List.prefix_iff_eq_take]
  exact ⟨fun h => h.symm, fun h => h.symm⟩
theorem map_inj_list {α β : Type} {f : α → β} (hf : ∀ a b, f a = f b → a = b) : ∀ {x y : List α}, x.map f = y.map f → x = y
  | [], [], _ => rfl
  | [], _ :: _, h => by cases h
  | _ :: _, [], h => by cases h
  | a :: x, b :: y, h => by
    simp only [List.map_cons, List.cons.injEq] at h
    rw [hf a b h.1, map_inj_list hf h.2]
/-- does a pattern stand at this place? -/
theorem cut_pre {t p : ByteArray} {k : Nat} : ((t.extract k (k + p.size)).toList == p.toList) = (txt p).isPrefixOf ((txt t).drop k) := by
  rw [Bool.eq_iff_iff, beq_iff_eq, pre_iff_take, txt_len, ext_list, Nat.add_sub_cancel_left]
  unfold txt
  rw [← List.map_drop, ← List.map_take]
  exact ⟨fun h => by rw [h], fun h => map_inj_list (fun a b e => UInt8.toNat_inj.1 (by omega)) h⟩
/-- the places in one text, as far as it is looked at -/
def ksTo (t q : List Nat) (k : Nat) : List Nat := (List.range k).filter fun i => q.isPrefixOf (t.drop i)
theorem ksTo_yes {t q : List Nat} {k : Nat} (h : q.isPrefixOf (t.drop k) = true) : ksTo t q (k + 1) = ksTo t q k ++ [k] := by
  unfold ksTo
  rw [List.range_succ, List.filter_append, List.filter_cons_of_pos (by simpa using h)]
  rfl
theorem ksTo_no {t q : List Nat} {k : Nat} (h : q.isPrefixOf (t.drop k) = false) : ksTo t q (k + 1) = ksTo t q k := by
  unfold ksTo
  rw [List.range_succ, List.filter_append, List.filter_cons_of_neg (by simp [h])]
  simp
theorem ksTo_past {t q : List Nat} (h0 : q ≠ []) : ∀ d, ksTo t q (t.length + 1 - q.length + d) = ksTo t q (t.length + 1 - q.length)
  | 0 => rfl
  | d + 1 => by
    rw [← Nat.add_assoc, ksTo_no, ksTo_past h0 d]
    rw [← Bool.not_eq_true]
    intro h
    have h1 := (List.isPrefixOf_iff_prefix.1 h).length_le
    have h2 := List.length_pos_iff.2 h0
    rw [List.length_drop] at h1
    omega
theorem ks_to {t q : List Nat} {k : Nat} (h0 : q ≠ []) (h : t.length + 1 - q.length ≤ k) (hk : k ≤ t.length + 1) : ks t q = ksTo t q k := by
  have e1 := ksTo_past (t := t) h0 (k - (t.length + 1 - q.length))
  have e2 := ksTo_past (t := t) h0 (t.length + 1 - (t.length + 1 - q.length))
  rw [show t.length + 1 - q.length + (k - (t.length + 1 - q.length)) = k by omega] at e1
  rw [show t.length + 1 - q.length + (t.length + 1 - (t.length + 1 - q.length)) = t.length + 1 by omega] at e2
  rw [e1, ← e2]
  rfl
theorem ksTo_le {t q : List Nat} {k : Nat} : (ksTo t q k).length ≤ k := by
  have := List.length_filter_le (fun i => q.isPrefixOf (t.drop i)) (List.range k)
  rw [List.length_range] at this
  exact this
theorem hits_le {p : ByteArray} : ∀ ds : List Dc, (hits ds p).length ≤ dsz ds + ds.length
  | [] => Nat.zero_le _
  | d :: ds => by
    have h1 : (ks (txt d.2) (txt p)).length ≤ (txt d.2).length + 1 := ksTo_le
    have := hits_le (p := p) ds
    rw [txt_len] at h1
    rw [hits, List.length_append, List.length_map, dsz, List.length_cons]
    omega
/-! ### arguments -/
abbrev docT : Ty := .pr .str (.pr .str .unit)
def Small (s : ByteArray) : Prop := s.size ≤ 140737488351232
theorem at_docs {w : World} {c : Nat → Option Value} {xs : List (ByteArray × ByteArray × Unit)} (h : (Ty.sl docT).At w c xs) : ∃ (A : Option Addr) (cap : Nat) (ds : List Dc), c 0 = some (.slice A ds.length cap) ∧ RowK 2 dV w A ds ∧ (∀ d ∈ ds, Small d.1 ∧ Small d.2) ∧ ds.length * 32 ≤ 140737488351232 ∧ ds.length ≤ cap ∧ (A = none → cap = 0) := by
  obtain ⟨A, cap, h0, h1, h2, h3⟩ := h
  have hl : (List.map (fun x : ByteArray × ByteArray × Unit => ((x.1, x.2.1) : Dc)) xs).length = List.length xs := List.length_map _
  refine ⟨A, cap, List.map (fun x : ByteArray × ByteArray × Unit => ((x.1, x.2.1) : Dc)) xs, by rw [hl]; exact h0, fun hp => ?_, fun d hd => ?_, by rw [hl]; exact h1, by rw [hl]; exact h2.1, h2.2.2⟩
  · rw [hl] at hp
    obtain ⟨b, o, hA, _, hi⟩ := h3 hp
    refine ⟨b, o, hA, fun i hlt => ?_⟩
    have hlt2 : i < List.length xs := by rwa [hl] at hlt
    obtain ⟨⟨c1, _⟩, ⟨c2, _⟩, _⟩ := hi i _ (List.getElem?_eq_getElem hlt2)
    rw [List.getElem_map]
    intro j v hv
    match j, hv with
    | 0, hv => simp [dV] at hv; subst hv; simpa [Ty.size] using c1
    | 1, hv => simp [dV] at hv; subst hv; simpa [Ty.size] using c2
    | j + 2, hv => simp [dV] at hv
  · obtain ⟨x, hx, rfl⟩ := List.mem_map.1 hd
    obtain ⟨i, hi, rfl⟩ := List.getElem_of_mem hx
    obtain ⟨b, o, hA, _, hh⟩ := h3 (Nat.lt_of_le_of_lt (Nat.zero_le _) hi)
    obtain ⟨⟨_, c1⟩, ⟨_, c2⟩, _⟩ := hh i _ (List.getElem?_eq_getElem hi)
    exact ⟨c1, c2⟩
theorem at_strS {w : World} {c : Nat → Option Value} {xs : List ByteArray} (h : (Ty.sl .str).At w c xs) : ∃ (A : Option Addr) (cap : Nat) (ps : List ByteArray), c 0 = some (.slice A ps.length cap) ∧ RowOf Value.string w A ps ∧ (∀ s ∈ ps, Small s) ∧ ps.length * 16 ≤ 140737488351232 := by
  obtain ⟨A, cap, h0, h1, h2, h3⟩ := h
  refine ⟨A, cap, xs, h0, fun hp => ?_, fun s hs => ?_, h1⟩
  · obtain ⟨b, o, hA, _, hi⟩ := h3 hp
    refine ⟨b, o, hA, fun i hlt => ?_⟩
    have := (hi i _ (List.getElem?_eq_getElem hlt)).1
    simpa [Ty.size] using this
  · obtain ⟨i, hi, rfl⟩ := List.getElem_of_mem hs
    obtain ⟨b, o, hA, _, hh⟩ := h3 (Nat.lt_of_le_of_lt (Nat.zero_le _) hi)
    exact (hh i _ (List.getElem?_eq_getElem hi)).2
end Go.Proofs.Ytllmocjfllbbfaa

namespace Go.Proofs.Ytllmocjfllbbfaa
open Go.RowKit
open Go.ChangeShapes Go.WideShapes Go.ChangeAt
open Go.Proofs.Ytllmocjfllbbfaa.SA
theorem SegRef_q22 : litQ Try.prog 22 = some (65, 2, 32, (.agg #[.string ⟨#[]⟩, .string ⟨#[]⟩])) := by kernel_rfl
theorem SegRef_q32 : litQ Try.prog 32 = some (63, 2, 24, (.agg #[.string ⟨#[]⟩, .int .i64 0])) := by kernel_rfl
theorem SegRef_l22 : (elemQ Try.prog 22).isSome = true := by kernel_rfl
theorem SegRef_e22 : elemQ Try.prog 22 = some (65, 2) := by kernel_rfl
theorem SegRef_g65 : aggQ Try.prog 65 = some true := by kernel_rfl
theorem SegRef_z65 : sizeQ Try.prog 65 = some 2 := by kernel_rfl
theorem SegRef_b65_0cstring115112111105108116 : Try.prog.built 65 [(0, .string ⟨#[115, 112, 111, 105, 108, 116]⟩)] = some #[.string ⟨#[115, 112, 111, 105, 108, 116]⟩, .string ⟨#[]⟩] := by kernel_rfl
theorem SegRef_b65_ : Try.prog.built 65 [] = some #[.string ⟨#[]⟩, .string ⟨#[]⟩] := by kernel_rfl
theorem SegRef_g63 : aggQ Try.prog 63 = some true := by kernel_rfl
theorem SegRef_z63 : sizeQ Try.prog 63 = some 2 := by kernel_rfl
theorem SegRef_l32 : (elemQ Try.prog 32).isSome = true := by kernel_rfl
theorem SegRef_e32 : elemQ Try.prog 32 = some (63, 2) := by kernel_rfl
theorem SegRef_b63_0cstring115112111105108116 : Try.prog.built 63 [(0, .string ⟨#[115, 112, 111, 105, 108, 116]⟩)] = some #[.string ⟨#[115, 112, 111, 105, 108, 116]⟩, .int .i64 0] := by kernel_rfl
theorem SegRef_b63_ : Try.prog.built 63 [] = some #[.string ⟨#[]⟩, .int .i64 0] := by kernel_rfl
theorem SegRef_g9 : aggQ Try.prog 9 = some false := by kernel_rfl
theorem SegRef_f65_0 : fieldQ Try.prog 65 0 = some 0 := by kernel_rfl
theorem SegRef_f65_1 : fieldQ Try.prog 65 1 = some 1 := by kernel_rfl
theorem SegRef_l23 : (elemQ Try.prog 23).isSome = true := by kernel_rfl
theorem SegRef_e23 : elemQ Try.prog 23 = some (9, 1) := by kernel_rfl
theorem SegRef_k47 : callable Try.prog 47 = true := by kernel_rfl
theorem SegRef_b63_0_1 : ∀ (a0 : ByteArray) (a1 : Int), Try.prog.built 63 [(0, .string a0), (1, .int .i64 a1)] = some #[.string a0, .int .i64 a1] := by intros; kernel_rfl
set_option maxHeartbeats 400000 in
theorem copyDocs_rt (A : Option Addr) (c n : Nat) (l : List Dc) (w : World) (hr : RowK 2 dV w A l) (hn : n = l.length) (hl : n ≤ 100000000) :
    Rt Try.prog 26 [.slice A n c] w (fun v w' => (∃ A' c', v = .slice A' n c' ∧ w'.ownsRow w.heap.size 65 2 (.slice A' n c') n (l.flatMap dV)) ∧ From w w') := by
  refine enter (n := 19) Try.func26 rfl rfl rfl ?_
  refine cd_seq (cd_region ?_)
  refine ass rfl ?_
  refine st_nil (nx_then (cd_seq (cd_region ?_)))
  refine ass rfl ?_
  refine st_nil (nx_then (cd_seq (cd_seq (cd_region ?_))))
  refine asi rfl ?_
  refine st_nil (nx_then (cd_block ?_))
  refine cd_loop (G := Nat × Option Addr × Nat) [5, 6, 7, 8, 9, 10, 11, 12, 13, 14, 15, 16, 17] (fun (k, A3, c3) => [(3, .slice A3 k c3), (4, .int .i64 (k : Nat))]) (fun (k, A3, c3) w' => k ≤ n ∧ w'.ownsRow w.heap.size 65 2 (.slice A3 k c3) k ((l.take k).flatMap dV) ∧ From w w') (fun (k, _, _) => n - k) ((0, none, 0)) ⟨rfl, rfl, trivial⟩ ?_ ?_
  · exact ⟨Nat.zero_le _, World.ownsRow_nil _ _ _ _, From.rfl_⟩
  rintro ⟨k, A3, c3⟩ ρ1 w1 ⟨hk, ho, hB⟩
  refine cd_seq (cd_seq (cd_region ?_))
  refine mvi rfl ?_
  refine mvs rfl ?_
  refine st_val (ro_len SegRef_l22 rfl) ?_
  refine st_val (ro_lss rfl rfl) ?_
  refine st_nil (nx_then ?_)
  refine cd_cond rfl (fun Q2 => ?_) (fun Q2 => ?_)
  · with_reducible replace Q2 := of_decide_eq_true Q2
    obtain ⟨ba, oa, rfl, hca⟩ := hr (by omega)
    have hkl : k < l.length := by omega
    have hce := hca k hkl
    refine cd_skip (nx_then (cd_seq (cd_block (cd_region ?_))))
    refine mvs rfl ?_
    refine mvs rfl ?_
    refine mvi rfl ?_
    refine st_val (ro_indexAddrN SegRef_e22 rfl rfl (by omega)) ?_
    refine st_val (ro_loadA (cs := [_, _]) SegRef_g65 SegRef_z65 rfl (by exact rangeF hB hce)) ?_
    refine st_litK2 SegRef_q22 rfl rfl rfl ?_
    intro b16 w3 E16 hb16 hk16
    refine st_appendB SegRef_q22 rfl (by decide) rfl (A := A3) (xs := (l.take k).flatMap dV) (news := dV l[k]) (ho.kept_from (From.rfl_.next E16)) ((hB.next E16).size) rfl rfl (fun _ => ⟨b16, 0, rfl, hk16.whole⟩) (fun h => by cases h) (by simp [dV, Value.oneCell']) (by omega) (by omega) ?_
    intro A17 c17 w4 ho17 hg17
    have HF17 := ((hB.next E16)).grew hg17 (fun k hk => (own_at (ho.kept_from (From.rfl_.next E16)) k hk).1)
    refine ass rfl ?_
    refine st_nil (nx_block (nx_then (cd_region ?_)))
    refine mvi rfl ?_
    refine st_val (ro_addN (b := 1) rfl rfl (by omega)) ?_
    refine asi rfl ?_
    refine st_nil ?_
    refine nx_cut ((k + 1, A17, c17)) ⟨(by first | rfl | (refine int_eq ?_; omega)), (by first | rfl | (refine int_eq ?_; omega)), trivial⟩ (by (iterate 30 refine agr_cons rfl ?_); exact agr_rfl) ⟨?_, ?_⟩
    · exact ⟨by omega, by rw [List.take_succ_eq_append_getElem hkl, List.flatMap_append]; simpa using ho17, HF17⟩
    · show n - (k + 1) < n - k; omega
  with_reducible replace Q2 := of_decide_eq_false Q2
  refine cd_exit ?_
  refine ex_then (ex_then (ex_block (nx_then (cd_seq (cd_region ?_)))))
  refine mvs rfl ?_
  refine ass rfl ?_
  refine st_nil (nx_then (cd_ret ?_))
  refine res1 (v := .slice _ _ _) rfl rfl ?_
  obtain rfl : k = n := by omega
  rw [hn, List.take_length] at ho
  exact ⟨⟨A3, c3, rfl, by rw [hn]; exact ho⟩, hB⟩
set_option maxHeartbeats 400000 in
theorem spoilDocs_rt (base : Nat) (A : Option Addr) (c n : Nat) (l : List Dc) (w : World) (ho : w.ownsRow base 65 2 (.slice A n c) n (l.flatMap dV)) (hl : n ≤ 100000000) (hbs : base ≤ w.heap.size) :
    Rt Try.prog 29 [.slice A n c] w (fun _ w' => w.grownBy w' (A.map (·.block))) := by
  have hn := (RowK.own dV_len (by decide) ho).1
  refine enter (n := 17) Try.func29 rfl rfl rfl ?_
  refine cd_seq (cd_seq (cd_region ?_))
  refine asi rfl ?_
  refine st_nil (nx_then (cd_block ?_))
  refine cd_loop (G := Nat × List Dc) [3, 4, 5, 6, 7, 8, 9, 10, 11, 12] (fun (k, _) => [(2, .int .i64 (k : Nat))]) (fun (k, l1) w' => k ≤ n ∧ l1.length = n ∧ w'.ownsRow base 65 2 (.slice A n c) n (l1.flatMap dV) ∧ w.grownBy w' (A.map (·.block))) (fun (k, _) => n - k) ((0, l)) ⟨rfl, trivial⟩ ?_ ?_
  · exact ⟨Nat.zero_le _, hn, ho, (From.rfl_ (a := w)).grown _⟩
  rintro ⟨k, l1⟩ ρ1 w1 ⟨hk, hlen, ho1, hG⟩
  refine cd_seq (cd_seq (cd_region ?_))
  refine mvi rfl ?_
  refine mvs rfl ?_
  refine st_val (ro_len SegRef_l22 rfl) ?_
  refine st_val (ro_lss rfl rfl) ?_
  refine st_nil (nx_then ?_)
  refine cd_cond rfl (fun Q2 => ?_) (fun Q2 => ?_)
  · with_reducible replace Q2 := of_decide_eq_true Q2
    obtain ⟨g, rfl⟩ := own_some ho (by omega)
    have hkl : k < l1.length := by omega
    refine cd_skip (nx_then (cd_seq (cd_block (cd_region ?_))))
    refine mvs rfl ?_
    refine mvi rfl ?_
    refine st_val (ro_build (l := [(0, .const (.string ⟨#[115, 112, 111, 105, 108, 116]⟩))]) (SegRef_b65_0cstring115112111105108116)) ?_
    refine st_val (ro_indexAddrN SegRef_e22 rfl rfl (by omega)) ?_
    refine st_putOwnK (size := 2) (o := k * 2) (vs := dV (⟨#[115, 112, 111, 105, 108, 116]⟩, ⟨#[]⟩)) SegRef_z65 (by show Value.pointer (some ⟨g, 0 + k * 2, none⟩) = _; rw [Nat.zero_add]) rfl (by simp [dV, Value.oneCell']) ho1 (by omega) (by show k * 2 + 2 ≤ n * 2; omega) ?_
    intro w3 O3 P3
    refine st_nil (nx_block (nx_then (cd_region ?_)))
    refine mvi rfl ?_
    refine st_val (ro_addN (b := 1) rfl rfl (by omega)) ?_
    refine asi rfl ?_
    refine st_nil ?_
    refine nx_cut ((k + 1, l1.set k (⟨#[115, 112, 111, 105, 108, 116]⟩, ⟨#[]⟩))) ⟨(by first | rfl | (refine int_eq ?_; omega)), trivial⟩ (by (iterate 22 refine agr_cons rfl ?_); exact agr_rfl) ⟨?_, ?_⟩
    · exact ⟨by omega, (List.length_set ..).trans hlen, by rw [← over_flat dV_len l1 k hkl]; exact P3, grown_trans hG O3.grown⟩
    · show n - (k + 1) < n - k; omega
  with_reducible replace Q2 := of_decide_eq_false Q2
  refine cd_exit ?_
  refine ex_then (ex_then (ex_block (nx_then (cd_region ?_))))
  refine mvs rfl ?_
  refine st_val (ro_build (l := []) (SegRef_b65_)) ?_
  refine st_litK2 SegRef_q22 rfl rfl rfl ?_
  intro b15 w4 E15 hb15 hk15
  refine st_appendB (base := base) SegRef_q22 rfl (by decide) rfl (A := A) (xs := l1.flatMap dV) (news := dV (⟨#[]⟩, ⟨#[]⟩)) (ho1.kept_from E15) (by have := hG.size; have := E15.size; omega) rfl rfl (fun _ => ⟨b15, 0, rfl, hk15.whole⟩) (fun h => by cases h) (by simp [dV, Value.oneCell']) (by omega) (by omega) ?_
  intro A16 c16 w5 ho16 hg16
  refine ass rfl ?_
  refine st_nil ?_
  refine end_ret ?_
  refine res0 rfl ?_
  exact grown_trans hG (grown_trans (E15.grown _) hg16)
set_option maxHeartbeats 400000 in
theorem eqHits_rt (A B : Option Addr) (ca cb n m : Nat) (a b : List Ht) (w : World) (ha : RowK 2 hV w A a) (hb : RowK 2 hV w B b) (hn : n = a.length) (hm : m = b.length) (hl : n ≤ 100000000) :
    Rt Try.prog 14 [.slice A n ca, .slice B m cb] w (fun v w' => v = .bool (decide (a = b)) ∧ From w w') := by
  refine enter (n := 26) Try.func14 rfl rfl rfl ?_
  refine cd_seq (cd_region ?_)
  refine asb rfl ?_
  refine st_nil (nx_then (cd_seq (cd_seq (cd_region ?_))))
  refine mvs rfl ?_
  refine st_val (ro_len SegRef_l32 rfl) ?_
  refine mvs rfl ?_
  refine st_val (ro_len SegRef_l32 rfl) ?_
  refine st_val (ro_neq rfl rfl) ?_
  refine st_nil (nx_then ?_)
  refine cd_cond rfl (fun Q1 => ?_) (fun Q1 => ?_)
  · with_reducible replace Q1 := bx_t Q1
    refine cd_seq (cd_region ?_)
    refine asb rfl ?_
    refine st_nil (nx_then (cd_ret (rt_then ?_)))
    refine res1 (v := .bool _) rfl rfl ?_
    exact ⟨by rw [decide_eq_false]; rintro rfl; omega, From.rfl_⟩
  with_reducible replace Q1 := bx_f Q1
  refine cd_skip (nx_then (cd_seq (cd_seq (cd_region ?_))))
  refine asi rfl ?_
  refine st_nil (nx_then (cd_block ?_))
  refine cd_loop (G := Nat) [4, 11, 12, 13, 14, 15, 16, 17, 18, 19, 20, 21, 22, 23, 24, 25] (fun k => [(5, .int .i64 (k : Nat))]) (fun k w' => k ≤ n ∧ a.take k = b.take k ∧ From w w') (fun k => n - k) (0) ⟨rfl, trivial⟩ ?_ ?_
  · exact ⟨Nat.zero_le _, rfl, From.rfl_⟩
  rintro k ρ2 w2 ⟨hk, ht, hB⟩
  refine cd_seq (cd_seq (cd_region ?_))
  refine mvi rfl ?_
  refine mvs rfl ?_
  refine st_val (ro_len SegRef_l32 rfl) ?_
  refine st_val (ro_lss rfl rfl) ?_
  refine st_nil (nx_then ?_)
  refine cd_cond rfl (fun Q3 => ?_) (fun Q3 => ?_)
  · with_reducible replace Q3 := of_decide_eq_true Q3
    obtain ⟨ba, oa, rfl, hca⟩ := ha (by omega)
    obtain ⟨bb, ob, rfl, hcb⟩ := hb (by omega)
    refine cd_skip (nx_then (cd_seq (cd_block (cd_seq ?_))))
    apply cd_drawnD 9 [(17, eqp _), (18, eqp _), (19, eqp _), (20, eqp (.agg (hV a[k]).toArray)), (21, eqp _), (22, eqp _), (23, eqp _), (24, eqp (.agg (hV b[k]).toArray)), (25, eqp _)] (by repeat first | exact pq_body | refine pq_then ?_ | refine pq_block ?_) (by kernel_rfl) (by kernel_rfl) ⟨eqp_mono _, eqp_mono _, eqp_mono _, eqp_mono _, eqp_mono _, eqp_mono _, eqp_mono _, eqp_mono _, eqp_mono _, trivial⟩
    case hop =>
     refine ⟨?_, ?_⟩
     · rintro - w5 D5
       show OpOK _ _ _ _ _ _ _
       exact ok_pure (ro_move (v := .slice _ _ _) rfl) rfl
     refine ⟨?_, ?_⟩
     · rintro - w6 D6
       show OpOK _ _ _ _ _ _ _
       exact ok_pure (ro_move (v := .int _ _) rfl) rfl
     refine ⟨?_, ?_⟩
     · rintro - w7 D7
       rintro _ rfl _ rfl
       show OpOK _ _ _ _ _ _ _
       exact ok_pure (ro_indexAddrN SegRef_e32 rfl rfl (by omega)) rfl
     refine ⟨?_, ?_⟩
     · rintro - w8 D8
       rintro _ rfl
       show OpOK _ _ _ _ _ _ _
       exact ok_pure (ro_loadA (cs := hV a[k]) SegRef_g63 SegRef_z63 rfl (rangeF (hB.next D8) (hca k (by omega)))) rfl
     refine ⟨?_, ?_⟩
     · rintro - w9 D9
       show OpOK _ _ _ _ _ _ _
       exact ok_pure (ro_move (v := .slice _ _ _) rfl) rfl
     refine ⟨?_, ?_⟩
     · rintro - w10 D10
       show OpOK _ _ _ _ _ _ _
       exact ok_pure (ro_move (v := .int _ _) rfl) rfl
     refine ⟨?_, ?_⟩
     · rintro - w11 D11
       rintro _ rfl _ rfl
       show OpOK _ _ _ _ _ _ _
       exact ok_pure (ro_indexAddrN SegRef_e32 rfl rfl (by omega)) rfl
     refine ⟨?_, ?_⟩
     · rintro - w12 D12
       rintro _ rfl
       show OpOK _ _ _ _ _ _ _
       exact ok_pure (ro_loadA (cs := hV b[k]) SegRef_g63 SegRef_z63 rfl (rangeF (hB.next D12) (hcb k (by omega)))) rfl
     refine ⟨?_, ?_⟩
     · rintro - w13 D13
       rintro v13_20 rfl v13_24 rfl
       show OpOK _ _ _ _ _ _ _
       exact ok_pure (ro_neqHt rfl rfl) rfl
     exact trivial
    case hend =>
     intro w14 D14
     rintro _ rfl _ rfl _ rfl v20 rfl _ rfl _ rfl _ rfl v24 rfl _ rfl
     show St _ _ _ _ _ _ _
     refine st_nil (nx_then ?_)
     refine cd_cond rfl (fun Q15 => ?_) (fun Q15 => ?_)
     · with_reducible (replace Q15 := bn_t Q15; replace Q15 := of_decide_eq_false Q15)
       have hne : ¬ a[k] = b[k] := by simpa using Q15
       refine cd_seq (cd_region ?_)
       refine asb rfl ?_
       refine st_nil (nx_then (cd_ret (rt_block (rt_then (rt_then (rt_block (rt_then ?_)))))))
       refine res1 (v := .bool _) rfl rfl ?_
       exact ⟨by rw [decide_eq_false]; rintro rfl; exact hne rfl, (hB.next D14)⟩
     with_reducible (replace Q15 := bn_f Q15; replace Q15 := of_decide_eq_true Q15)
     have heq : a[k] = b[k] := by simpa using Q15
     refine cd_skip (nx_block (nx_then (cd_region ?_)))
     refine mvi rfl ?_
     refine st_val (ro_addN (b := 1) rfl rfl (by omega)) ?_
     refine asi rfl ?_
     refine st_nil ?_
     refine nx_cut (k + 1) ⟨(by first | rfl | (refine int_eq ?_; omega)), trivial⟩ (by (iterate 33 refine agr_cons rfl ?_); exact agr_rfl) ⟨?_, ?_⟩
     · exact ⟨by omega, take_eq (by omega) (by omega) ht heq, (hB.next D14)⟩
     · show n - (k + 1) < n - k; omega
  with_reducible replace Q3 := of_decide_eq_false Q3
  refine cd_exit ?_
  refine ex_then (ex_then (ex_block (nx_then (cd_seq (cd_region ?_)))))
  refine asb rfl ?_
  refine st_nil (nx_then (cd_ret ?_))
  refine res1 (v := .bool _) rfl rfl ?_
  exact ⟨by rw [decide_eq_true (eq_ge (by omega) (by omega) ht)], hB⟩
set_option maxHeartbeats 400000 in
theorem spoilHits_rt (base : Nat) (A : Option Addr) (c n : Nat) (l : List Ht) (w : World) (ho : w.ownsRow base 63 2 (.slice A n c) n (l.flatMap hV)) (hl : n ≤ 100000000) (hbs : base ≤ w.heap.size) :
    Rt Try.prog 15 [.slice A n c] w (fun _ w' => w.grownBy w' (A.map (·.block))) := by
  have hn := (RowK.own hV_len (by decide) ho).1
  refine enter (n := 17) Try.func15 rfl rfl rfl ?_
  refine cd_seq (cd_seq (cd_region ?_))
  refine asi rfl ?_
  refine st_nil (nx_then (cd_block ?_))
  refine cd_loop (G := Nat × List Ht) [3, 4, 5, 6, 7, 8, 9, 10, 11, 12] (fun (k, _) => [(2, .int .i64 (k : Nat))]) (fun (k, l1) w' => k ≤ n ∧ l1.length = n ∧ w'.ownsRow base 63 2 (.slice A n c) n (l1.flatMap hV) ∧ w.grownBy w' (A.map (·.block))) (fun (k, _) => n - k) ((0, l)) ⟨rfl, trivial⟩ ?_ ?_
  · exact ⟨Nat.zero_le _, hn, ho, (From.rfl_ (a := w)).grown _⟩
  rintro ⟨k, l1⟩ ρ1 w1 ⟨hk, hlen, ho1, hG⟩
  refine cd_seq (cd_seq (cd_region ?_))
  refine mvi rfl ?_
  refine mvs rfl ?_
  refine st_val (ro_len SegRef_l32 rfl) ?_
  refine st_val (ro_lss rfl rfl) ?_
  refine st_nil (nx_then ?_)
  refine cd_cond rfl (fun Q2 => ?_) (fun Q2 => ?_)
  · with_reducible replace Q2 := of_decide_eq_true Q2
    obtain ⟨g, rfl⟩ := own_some ho (by omega)
    have hkl : k < l1.length := by omega
    refine cd_skip (nx_then (cd_seq (cd_block (cd_region ?_))))
    refine mvs rfl ?_
    refine mvi rfl ?_
    refine st_val (ro_build (l := [(0, .const (.string ⟨#[115, 112, 111, 105, 108, 116]⟩))]) (SegRef_b63_0cstring115112111105108116)) ?_
    refine st_val (ro_indexAddrN SegRef_e32 rfl rfl (by omega)) ?_
    refine st_putOwnK (size := 2) (o := k * 2) (vs := hV (⟨#[115, 112, 111, 105, 108, 116]⟩, 0)) SegRef_z63 (by show Value.pointer (some ⟨g, 0 + k * 2, none⟩) = _; rw [Nat.zero_add]) rfl (by simp [hV, Value.oneCell']) ho1 (by omega) (by show k * 2 + 2 ≤ n * 2; omega) ?_
    intro w3 O3 P3
    refine st_nil (nx_block (nx_then (cd_region ?_)))
    refine mvi rfl ?_
    refine st_val (ro_addN (b := 1) rfl rfl (by omega)) ?_
    refine asi rfl ?_
    refine st_nil ?_
    refine nx_cut ((k + 1, l1.set k (⟨#[115, 112, 111, 105, 108, 116]⟩, 0))) ⟨(by first | rfl | (refine int_eq ?_; omega)), trivial⟩ (by (iterate 22 refine agr_cons rfl ?_); exact agr_rfl) ⟨?_, ?_⟩
    · exact ⟨by omega, (List.length_set ..).trans hlen, by rw [← over_flat hV_len l1 k hkl]; exact P3, grown_trans hG O3.grown⟩
    · show n - (k + 1) < n - k; omega
  with_reducible replace Q2 := of_decide_eq_false Q2
  refine cd_exit ?_
  refine ex_then (ex_then (ex_block (nx_then (cd_region ?_))))
  refine mvs rfl ?_
  refine st_val (ro_build (l := []) (SegRef_b63_)) ?_
  refine st_litK2 SegRef_q32 rfl rfl rfl ?_
  intro b15 w4 E15 hb15 hk15
  refine st_appendB (base := base) SegRef_q32 rfl (by decide) rfl (A := A) (xs := l1.flatMap hV) (news := hV (⟨#[]⟩, 0)) (ho1.kept_from E15) (by have := hG.size; have := E15.size; omega) rfl rfl (fun _ => ⟨b15, 0, rfl, hk15.whole⟩) (fun h => by cases h) (by simp [hV, Value.oneCell']) (by omega) (by omega) ?_
  intro A16 c16 w5 ho16 hg16
  refine ass rfl ?_
  refine st_nil ?_
  refine end_ret ?_
  refine res0 rfl ?_
  exact grown_trans hG (grown_trans (E15.grown _) hg16)
set_option maxHeartbeats 400000 in
theorem docW_rt (A : Option Addr) (c n : Nat) (ds : List Dc) (w : World) (hr : RowK 2 dV w A ds) (hn : n = ds.length) (hl : n ≤ 10000000000000) (hs : ∀ d ∈ ds, Small d.1 ∧ Small d.2) :
    Rt Try.prog 27 [.slice A n c] w (fun v w' => (∃ m : Nat, v = .int .i64 (m : Nat) ∧ n ≤ m) ∧ From w w') := by
  refine enter (n := 33) Try.func27 rfl rfl rfl ?_
  refine cd_seq (cd_region ?_)
  refine asi rfl ?_
  refine st_nil (nx_then (cd_seq (cd_region ?_)))
  refine mvs rfl ?_
  refine st_val (ro_len SegRef_l22 rfl) ?_
  refine asi rfl ?_
  refine st_nil (nx_then (cd_seq (cd_seq (cd_region ?_))))
  refine asi rfl ?_
  refine st_nil (nx_then (cd_block ?_))
  refine cd_loop (G := Nat × Nat) [7, 8, 9, 10, 11, 12, 13, 14, 15, 16, 17, 18, 19, 20, 21, 22, 23, 24, 25, 26, 27, 28, 29, 30, 31] (fun (m, i) => [(3, .int .i64 (m : Nat)), (4, .int .i64 (i : Nat))]) (fun (m, i) w' => i ≤ n ∧ n ≤ m ∧ m ≤ 1000000000000000 ∧ From w w') (fun (_, i) => n - i) ((n, 0)) ⟨rfl, rfl, trivial⟩ ?_ ?_
  · exact ⟨Nat.zero_le _, Nat.le_refl _, by omega, From.rfl_⟩
  rintro ⟨m, i⟩ ρ1 w1 ⟨hi, hnm, hmb, hB⟩
  refine cd_seq (cd_seq (cd_region ?_))
  refine mvi rfl ?_
  refine mvs rfl ?_
  refine st_val (ro_len SegRef_l22 rfl) ?_
  refine st_val (ro_lss rfl rfl) ?_
  refine mvb rfl ?_
  refine st_split (t := 11) rfl (fun Q2 => ?_) (fun Q2 => ?_)
  · with_reducible replace Q2 := of_decide_eq_true Q2
    refine st_unguard rfl ?_
    refine mvi rfl ?_
    refine st_unguard rfl ?_
    refine st_val (ro_lss rfl rfl) ?_
    refine st_val (ro_pickT (v := .bool _) rfl rfl) ?_
    refine st_nil (nx_then ?_)
    refine cd_cond rfl (fun Q3 => ?_) (fun Q3 => ?_)
    · with_reducible replace Q3 := of_decide_eq_true Q3
      obtain ⟨bd, od, rfl, hcd⟩ := hr (by omega)
      have hil : i < ds.length := by omega
      have hce := hcd i hil
      rw [← getD_get hil] at hce
      obtain ⟨hz1, hz2⟩ : (ds.getD i dd).1.size ≤ 140737488351232 ∧ (ds.getD i dd).2.size ≤ 140737488351232 := by rw [getD_get hil]; exact hs _ (List.getElem_mem hil)
      refine cd_skip (nx_then (cd_seq (cd_block ?_)))
      apply cd_drawnD 16 [(17, eqp _), (18, eqp _), (19, eqp _), (20, eqp _), (21, eqp _), (22, eqp (.string (ds.getD i dd).1)), (23, eqp _), (24, eqp _), (25, eqp _), (26, eqp _), (27, eqp _), (28, eqp _), (29, eqp (.string (ds.getD i dd).2)), (30, eqp _), (31, eqp _), (3, eqp _)] (by repeat first | exact pq_body | refine pq_then ?_ | refine pq_block ?_) (by kernel_rfl) (by kernel_rfl) ⟨eqp_mono _, eqp_mono _, eqp_mono _, eqp_mono _, eqp_mono _, eqp_mono _, eqp_mono _, eqp_mono _, eqp_mono _, eqp_mono _, eqp_mono _, eqp_mono _, eqp_mono _, eqp_mono _, eqp_mono _, eqp_mono _, trivial⟩
      case hop =>
       refine ⟨?_, ?_⟩
       · rintro - w5 D5
         show OpOK _ _ _ _ _ _ _
         exact ok_pure (ro_move (v := .int _ _) rfl) rfl
       refine ⟨?_, ?_⟩
       · rintro - w6 D6
         show OpOK _ _ _ _ _ _ _
         exact ok_pure (ro_move (v := .slice _ _ _) rfl) rfl
       refine ⟨?_, ?_⟩
       · rintro - w7 D7
         show OpOK _ _ _ _ _ _ _
         exact ok_pure (ro_move (v := .int _ _) rfl) rfl
       refine ⟨?_, ?_⟩
       · rintro - w8 D8
         rintro _ rfl _ rfl
         show OpOK _ _ _ _ _ _ _
         exact ok_pure (ro_indexAddrN SegRef_e22 rfl rfl (by omega)) rfl
       refine ⟨?_, ?_⟩
       · rintro - w9 D9
         rintro _ rfl
         show OpOK _ _ _ _ _ _ _
         exact ok_pure (ro_fieldAddr SegRef_f65_0 rfl) rfl
       refine ⟨?_, ?_⟩
       · rintro - w10 D10
         rintro _ rfl
         show OpOK _ _ _ _ _ _ _
         exact ok_pure (ro_load (v := .string (ds.getD i dd).1) SegRef_g9 rfl (cellF (hB.next D10) (hce 0 _ rfl))) rfl
       refine ⟨?_, ?_⟩
       · rintro - w11 D11
         rintro v11_22 rfl
         show OpOK _ _ _ _ _ _ _
         exact ok_pure (ro_lenS (by kernel_rfl) rfl) rfl
       refine ⟨?_, ?_⟩
       · rintro - w12 D12
         rintro _ rfl _ rfl
         show OpOK _ _ _ _ _ _ _
         exact ok_pure (ro_addN rfl rfl (by omega)) rfl
       refine ⟨?_, ?_⟩
       · rintro - w13 D13
         show OpOK _ _ _ _ _ _ _
         exact ok_pure (ro_move (v := .slice _ _ _) rfl) rfl
       refine ⟨?_, ?_⟩
       · rintro - w14 D14
         show OpOK _ _ _ _ _ _ _
         exact ok_pure (ro_move (v := .int _ _) rfl) rfl
       refine ⟨?_, ?_⟩
       · rintro - w15 D15
         rintro _ rfl _ rfl
         show OpOK _ _ _ _ _ _ _
         exact ok_pure (ro_indexAddrN SegRef_e22 rfl rfl (by omega)) rfl
       refine ⟨?_, ?_⟩
       · rintro - w16 D16
         rintro _ rfl
         show OpOK _ _ _ _ _ _ _
         exact ok_pure (ro_fieldAddr SegRef_f65_1 rfl) rfl
       refine ⟨?_, ?_⟩
       · rintro - w17 D17
         rintro _ rfl
         show OpOK _ _ _ _ _ _ _
         exact ok_pure (ro_load (v := .string (ds.getD i dd).2) SegRef_g9 rfl (cellF (hB.next D17) (hce 1 _ rfl))) rfl
       refine ⟨?_, ?_⟩
       · rintro - w18 D18
         rintro v18_29 rfl
         show OpOK _ _ _ _ _ _ _
         exact ok_pure (ro_lenS (by kernel_rfl) rfl) rfl
       refine ⟨?_, ?_⟩
       · rintro - w19 D19
         rintro _ rfl _ rfl
         show OpOK _ _ _ _ _ _ _
         exact ok_pure (ro_addN rfl rfl (by omega)) rfl
       refine ⟨?_, ?_⟩
       · rintro - w20 D20
         rintro _ rfl
         show OpOK _ _ _ _ _ _ _
         exact ok_pure (ro_assign (v := .int _ _) rfl) rfl
       exact trivial
      case hend =>
       intro w21 D21
       rintro _ rfl _ rfl _ rfl _ rfl _ rfl v22 rfl _ rfl _ rfl _ rfl _ rfl _ rfl _ rfl v29 rfl _ rfl _ rfl _ rfl
       show St _ _ _ _ _ _ _
       refine st_nil (nx_block (nx_then (cd_region ?_)))
       refine mvi rfl ?_
       refine st_val (ro_addN (b := 1) rfl rfl (by omega)) ?_
       refine asi rfl ?_
       refine st_nil ?_
       refine nx_cut ((m + (ds.getD i dd).1.size + (ds.getD i dd).2.size, i + 1)) ⟨(by first | rfl | (refine int_eq ?_; omega)), (by first | rfl | (refine int_eq ?_; omega)), trivial⟩ (by (iterate 55 refine agr_cons rfl ?_); exact agr_rfl) ⟨?_, ?_⟩
       · exact ⟨by omega, by omega, by omega, (hB.next D21)⟩
       · show n - (i + 1) < n - i; omega
    with_reducible replace Q3 := of_decide_eq_false Q3
    refine cd_exit ?_
    refine ex_then (ex_then (ex_block (nx_then (cd_seq (cd_region ?_)))))
    refine mvi rfl ?_
    refine asi rfl ?_
    refine st_nil (nx_then (cd_ret ?_))
    refine res1 (v := .int _ _) rfl rfl ?_
    exact ⟨⟨m, rfl, hnm⟩, hB⟩
  with_reducible replace Q2 := of_decide_eq_false Q2
  refine st_gno rfl rfl ?_
  refine st_gno rfl rfl ?_
  refine st_val (ro_pickF (v := .bool _) rfl rfl) ?_
  refine st_nil (nx_then ?_)
  refine cd_condF rfl ?_
  refine cd_exit ?_
  refine ex_then (ex_then (ex_block (nx_then (cd_seq (cd_region ?_)))))
  refine mvi rfl ?_
  refine asi rfl ?_
  refine st_nil (nx_then (cd_ret ?_))
  refine res1 (v := .int _ _) rfl rfl ?_
  exact ⟨⟨m, rfl, hnm⟩, hB⟩
set_option maxHeartbeats 400000 in
theorem textW_rt (A : Option Addr) (c n : Nat) (ps : List ByteArray) (w : World) (hr : RowOf Value.string w A ps) (hn : n = ps.length) (hl : n ≤ 10000000000000) (hs : ∀ s ∈ ps, Small s) :
    Rt Try.prog 28 [.slice A n c] w (fun v w' => (∃ m : Nat, v = .int .i64 (m : Nat) ∧ n ≤ m) ∧ From w w') := by
  refine enter (n := 25) Try.func28 rfl rfl rfl ?_
  refine cd_seq (cd_region ?_)
  refine asi rfl ?_
  refine st_nil (nx_then (cd_seq (cd_region ?_)))
  refine mvs rfl ?_
  refine st_val (ro_len SegRef_l23 rfl) ?_
  refine asi rfl ?_
  refine st_nil (nx_then (cd_seq (cd_seq (cd_region ?_))))
  refine asi rfl ?_
  refine st_nil (nx_then (cd_block ?_))
  refine cd_loop (G := Nat × Nat) [7, 8, 9, 10, 11, 12, 13, 14, 15, 16, 17, 18, 19, 20, 21, 22, 23] (fun (m, i) => [(3, .int .i64 (m : Nat)), (4, .int .i64 (i : Nat))]) (fun (m, i) w' => i ≤ n ∧ n ≤ m ∧ m ≤ 1000000000000000 ∧ From w w') (fun (_, i) => n - i) ((n, 0)) ⟨rfl, rfl, trivial⟩ ?_ ?_
  · exact ⟨Nat.zero_le _, Nat.le_refl _, by omega, From.rfl_⟩
  rintro ⟨m, i⟩ ρ1 w1 ⟨hi, hnm, hmb, hB⟩
  refine cd_seq (cd_seq (cd_region ?_))
  refine mvi rfl ?_
  refine mvs rfl ?_
  refine st_val (ro_len SegRef_l23 rfl) ?_
  refine st_val (ro_lss rfl rfl) ?_
  refine mvb rfl ?_
  refine st_split (t := 11) rfl (fun Q2 => ?_) (fun Q2 => ?_)
  · with_reducible replace Q2 := of_decide_eq_true Q2
    refine st_unguard rfl ?_
    refine mvi rfl ?_
    refine st_unguard rfl ?_
    refine st_val (ro_lss rfl rfl) ?_
    refine st_val (ro_pickT (v := .bool _) rfl rfl) ?_
    refine st_nil (nx_then ?_)
    refine cd_cond rfl (fun Q3 => ?_) (fun Q3 => ?_)
    · with_reducible replace Q3 := of_decide_eq_true Q3
      obtain ⟨bd, od, rfl, hcd⟩ := hr (by omega)
      have hil : i < ps.length := by omega
      have hce := hcd i hil
      have hz1 : (ps[i]).size ≤ 140737488351232 := hs _ (List.getElem_mem hil)
      refine cd_skip (nx_then (cd_seq (cd_block (cd_region ?_))))
      refine mvi rfl ?_
      refine mvs rfl ?_
      refine mvi rfl ?_
      refine st_val (ro_indexAddr1 SegRef_e23 rfl rfl (by omega)) ?_
      refine st_val (ro_load SegRef_g9 rfl (by exact cellF hB hce)) ?_
      refine st_val (ro_lenS (by kernel_rfl) rfl) ?_
      refine st_val (ro_addN rfl rfl (by omega)) ?_
      refine asi rfl ?_
      refine st_nil (nx_block (nx_then (cd_region ?_)))
      refine mvi rfl ?_
      refine st_val (ro_addN (b := 1) rfl rfl (by omega)) ?_
      refine asi rfl ?_
      refine st_nil ?_
      refine nx_cut ((m + (ps[i]).size, i + 1)) ⟨(by first | rfl | (refine int_eq ?_; omega)), (by first | rfl | (refine int_eq ?_; omega)), trivial⟩ (by (iterate 39 refine agr_cons rfl ?_); exact agr_rfl) ⟨?_, ?_⟩
      · exact ⟨by omega, by omega, by omega, hB⟩
      · show n - (i + 1) < n - i; omega
    with_reducible replace Q3 := of_decide_eq_false Q3
    refine cd_exit ?_
    refine ex_then (ex_then (ex_block (nx_then (cd_seq (cd_region ?_)))))
    refine mvi rfl ?_
    refine asi rfl ?_
    refine st_nil (nx_then (cd_ret ?_))
    refine res1 (v := .int _ _) rfl rfl ?_
    exact ⟨⟨m, rfl, hnm⟩, hB⟩
  with_reducible replace Q2 := of_decide_eq_false Q2
  refine st_gno rfl rfl ?_
  refine st_gno rfl rfl ?_
  refine st_val (ro_pickF (v := .bool _) rfl rfl) ?_
  refine st_nil (nx_then ?_)
  refine cd_condF rfl ?_
  refine cd_exit ?_
  refine ex_then (ex_then (ex_block (nx_then (cd_seq (cd_region ?_)))))
  refine mvi rfl ?_
  refine asi rfl ?_
  refine st_nil (nx_then (cd_ret ?_))
  refine res1 (v := .int _ _) rfl rfl ?_
  exact ⟨⟨m, rfl, hnm⟩, hB⟩
set_option maxHeartbeats 400000 in
theorem refSize_rt (A : Option Addr) (c n : Nat) (ds : List Dc) (w : World) (hr : RowK 2 dV w A ds) (hn : n = ds.length) (hl : n ≤ 100000000) (hz : dsz ds ≤ 1000000000000000000) :
    Rt Try.prog 47 [.slice A n c] w (fun v w' => v = .int .i64 ((dsz ds : Nat) : Int) ∧ From w w') := by
  refine enter (n := 20) Try.func47 rfl rfl rfl ?_
  refine cd_seq (cd_region ?_)
  refine asi rfl ?_
  refine st_nil (nx_then (cd_seq (cd_region ?_)))
  refine asi rfl ?_
  refine st_nil (nx_then (cd_seq (cd_seq (cd_region ?_))))
  refine asi rfl ?_
  refine st_nil (nx_then (cd_block ?_))
  refine cd_loop (G := Nat) [5, 6, 7, 8, 9, 10, 11, 12, 13, 14, 15, 16, 17, 18] (fun i => [(3, .int .i64 (dsz (ds.take i) : Nat)), (4, .int .i64 (i : Nat))]) (fun i w' => i ≤ n ∧ From w w') (fun i => n - i) (0) ⟨rfl, rfl, trivial⟩ ?_ ?_
  · exact ⟨Nat.zero_le _, From.rfl_⟩
  rintro i ρ1 w1 ⟨hi, hB⟩
  refine cd_seq (cd_seq (cd_region ?_))
  refine mvi rfl ?_
  refine mvs rfl ?_
  refine st_val (ro_len SegRef_l22 rfl) ?_
  refine st_val (ro_lss rfl rfl) ?_
  refine st_nil (nx_then ?_)
  refine cd_cond rfl (fun Q2 => ?_) (fun Q2 => ?_)
  · with_reducible replace Q2 := of_decide_eq_true Q2
    obtain ⟨bd, od, rfl, hcd⟩ := hr (by omega)
    have hil : i < ds.length := by omega
    have hce := hcd i hil
    rw [← getD_get hil] at hce
    have hdt := dsz_take hil
    have hdl := dsz_le (ds := ds) (i + 1)
    refine cd_skip (nx_then (cd_seq (cd_block (cd_region ?_))))
    refine mvi rfl ?_
    refine mvs rfl ?_
    refine mvi rfl ?_
    refine st_val (ro_indexAddrN SegRef_e22 rfl rfl (by omega)) ?_
    refine st_val (ro_fieldAddr SegRef_f65_1 rfl) ?_
    refine st_val (ro_load SegRef_g9 rfl (by exact cellF hB (hce 1 _ rfl))) ?_
    refine st_val (ro_lenS (by kernel_rfl) rfl) ?_
    refine st_val (ro_addN rfl rfl (by omega)) ?_
    refine asi rfl ?_
    refine st_nil (nx_block (nx_then (cd_region ?_)))
    refine mvi rfl ?_
    refine st_val (ro_addN (b := 1) rfl rfl (by omega)) ?_
    refine asi rfl ?_
    refine st_nil ?_
    refine nx_cut (i + 1) ⟨(int_eq (by rw [dsz_take hil])), rfl, trivial⟩ (by (iterate 32 refine agr_cons rfl ?_); exact agr_rfl) ⟨?_, ?_⟩
    · exact ⟨by omega, hB⟩
    · show n - (i + 1) < n - i; omega
  with_reducible replace Q2 := of_decide_eq_false Q2
  refine cd_exit ?_
  refine ex_then (ex_then (ex_block (nx_then (cd_seq (cd_region ?_)))))
  refine mvi rfl ?_
  refine asi rfl ?_
  refine st_nil (nx_then (cd_ret ?_))
  refine res1 (v := .int _ _) rfl rfl ?_
  obtain rfl : i = n := by omega
  exact ⟨by rw [hn, List.take_length], hB⟩
theorem dsz_many {ds : List Dc} (h : ∀ d ∈ ds, d.2.size ≤ 2048) : dsz ds ≤ ds.length * 2048 := by
  induction ds with
  | nil => exact Nat.zero_le _
  | cons d ds ih =>
    have h1 := h d (List.mem_cons_self ..)
    have h2 := ih fun e he => h e (List.mem_cons_of_mem _ he)
    rw [dsz, List.length_cons]
    omega
theorem size_get {s : ByteArray} : (s.toList == (⟨#[]⟩ : ByteArray).toList) = true ↔ s.size = 0 := str_eq.trans ⟨size_zero, size_zero'⟩
set_option maxHeartbeats 2000000 in
theorem refDocs_rt (A : Option Addr) (c n : Nat) (ds : List Dc) (w : World) (hr : RowK 2 dV w A ds) (hn : n = ds.length) (hl : n ≤ 100000000) :
    Rt Try.prog 30 [.slice A n c] w (fun v w' => v = .int .i64 (docE ds) ∧ From w w') := by
  refine enter (n := 63) Try.func30 rfl rfl rfl ?_
  refine cd_seq (cd_region ?_)
  refine asi rfl ?_
  refine st_nil (nx_then (cd_seq (cd_seq (cd_region ?_))))
  refine asi rfl ?_
  refine st_nil (nx_then (cd_block ?_))
  refine cd_loop (G := Nat) [2, 5, 6, 7, 8, 9, 10, 11, 12, 13, 14, 15, 16, 17, 18, 19, 20, 21, 22, 23, 24, 25, 26, 27, 28, 29, 30, 31, 32, 33, 34, 35, 36, 37, 38, 39, 40, 41, 42, 43] (fun i => [(3, .int .i64 (i : Nat))]) (fun i w' => i ≤ n ∧ (∀ x, x < i → okI ds x) ∧ From w w') (fun i => n - i) (0) ⟨rfl, trivial⟩ ?_ ?_
  · exact ⟨Nat.zero_le _, fun x h => absurd h (by omega), From.rfl_⟩
  rintro i ρ1 w1 ⟨hi, hok, hB⟩
  refine cd_seq (cd_seq (cd_region ?_))
  refine mvi rfl ?_
  refine mvs rfl ?_
  refine st_val (ro_len SegRef_l22 rfl) ?_
  refine st_val (ro_lss rfl rfl) ?_
  refine st_nil (nx_then ?_)
  refine cd_cond rfl (fun Q2 => ?_) (fun Q2 => ?_)
  · with_reducible replace Q2 := of_decide_eq_true Q2
    obtain ⟨bd, od, rfl, hcd⟩ := hr (by omega)
    have hil : i < ds.length := by omega
    have hce := hcd i hil
    rw [← getD_get hil] at hce
    have hcp : 0 < i → w.rangeAt bd (od + (i - 1) * 2) (dV (ds.getD (i - 1) dd)) := fun h => by
      have h2 := hcd (i - 1) (by omega)
      rwa [← getD_get (show i - 1 < ds.length by omega)] at h2
    refine cd_skip (nx_then (cd_seq (cd_block (cd_seq ?_))))
    have hsp : (ds.getD i dd).1.size = 0 ∨ (1 ≤ (ds.getD i dd).1.size ∧ 64 < (ds.getD i dd).1.size) ∨ (1 ≤ (ds.getD i dd).1.size ∧ (ds.getD i dd).1.size ≤ 64 ∧ i = 0) ∨ (1 ≤ (ds.getD i dd).1.size ∧ (ds.getD i dd).1.size ≤ 64 ∧ 0 < i) := by omega
    rcases hsp with hc1 | ⟨hc1, hc2⟩ | ⟨hc1, hc2, hc3⟩ | ⟨hc1, hc2, hc3⟩
    · apply cd_drawnD 33 [(11, eqp _), (12, eqp _), (13, eqp _), (14, eqp _), (15, eqp (.string (ds.getD i dd).1)), (16, eqp _), (17, eqp _), (18, eqp _), (19, eqp _), (20, eqp _), (21, eqp _), (22, eqp _), (23, eqp _), (24, eqp _), (25, eqp _), (26, eqp _), (27, eqp _), (28, eqp _), (29, eqp _), (30, eqp _), (31, eqp _), (32, eqp _), (33, eqp _), (34, eqp _), (35, eqp _), (36, eqp _), (37, eqp _), (38, eqp _), (39, eqp _), (40, eqp _), (41, eqp _), (42, eqp _), (43, eqp _)] (by repeat first | exact pq_body | refine pq_then ?_ | refine pq_block ?_) (by kernel_rfl) (by kernel_rfl) ⟨eqp_mono _, eqp_mono _, eqp_mono _, eqp_mono _, eqp_mono _, eqp_mono _, eqp_mono _, eqp_mono _, eqp_mono _, eqp_mono _, eqp_mono _, eqp_mono _, eqp_mono _, eqp_mono _, eqp_mono _, eqp_mono _, eqp_mono _, eqp_mono _, eqp_mono _, eqp_mono _, eqp_mono _, eqp_mono _, eqp_mono _, eqp_mono _, eqp_mono _, eqp_mono _, eqp_mono _, eqp_mono _, eqp_mono _, eqp_mono _, eqp_mono _, eqp_mono _, eqp_mono _, trivial⟩
      case hop =>
       refine ⟨?_, ?_⟩
       · rintro - w4 D4
         show OpOK _ _ _ _ _ _ _
         exact ok_pure (ro_move (v := .slice _ _ _) rfl) rfl
       refine ⟨?_, ?_⟩
       · rintro - w5 D5
         show OpOK _ _ _ _ _ _ _
         exact ok_pure (ro_move (v := .int _ _) rfl) rfl
       refine ⟨?_, ?_⟩
       · rintro - w6 D6
         rintro _ rfl _ rfl
         show OpOK _ _ _ _ _ _ _
         exact ok_pure (ro_indexAddrN SegRef_e22 rfl rfl (by omega)) rfl
       refine ⟨?_, ?_⟩
       · rintro - w7 D7
         rintro _ rfl
         show OpOK _ _ _ _ _ _ _
         exact ok_pure (ro_fieldAddr SegRef_f65_0 rfl) rfl
       refine ⟨?_, ?_⟩
       · rintro - w8 D8
         rintro _ rfl
         show OpOK _ _ _ _ _ _ _
         exact ok_pure (ro_load (v := .string (ds.getD i dd).1) SegRef_g9 rfl (cellF (hB.next D8) (hce 0 _ rfl))) rfl
       refine ⟨?_, ?_⟩
       · rintro - w9 D9
         rintro v9_15 rfl
         show OpOK _ _ _ _ _ _ _
         exact ok_pure (ro_bt (ro_eqlS rfl rfl) (size_get.2 (by omega))) rfl
       refine ⟨?_, ?_⟩
       · rintro - w10 D10
         rintro _ rfl
         show OpOK _ _ _ _ _ _ _
         exact ok_pure (ro_move (v := .bool _) rfl) rfl
       refine ⟨?_, ?_⟩
       · rintro - w11 D11
         rintro _ rfl
         show OpOK _ _ _ _ _ _ _
         exact ok_gno rfl rfl rfl
       refine ⟨?_, ?_⟩
       · rintro - w12 D12
         rintro _ rfl
         show OpOK _ _ _ _ _ _ _
         exact ok_gno rfl rfl rfl
       refine ⟨?_, ?_⟩
       · rintro - w13 D13
         rintro _ rfl _ rfl _ rfl
         show OpOK _ _ _ _ _ _ _
         exact ok_gno rfl rfl rfl
       refine ⟨?_, ?_⟩
       · rintro - w14 D14
         rintro _ rfl _ rfl
         show OpOK _ _ _ _ _ _ _
         exact ok_gno rfl rfl rfl
       refine ⟨?_, ?_⟩
       · rintro - w15 D15
         rintro _ rfl _ rfl
         show OpOK _ _ _ _ _ _ _
         exact ok_gno rfl rfl rfl
       refine ⟨?_, ?_⟩
       · rintro - w16 D16
         rintro _ rfl _ rfl
         show OpOK _ _ _ _ _ _ _
         exact ok_gno rfl rfl rfl
       refine ⟨?_, ?_⟩
       · rintro - w17 D17
         rintro _ rfl _ rfl
         show OpOK _ _ _ _ _ _ _
         exact ok_gno rfl rfl rfl
       refine ⟨?_, ?_⟩
       · rintro - w18 D18
         rintro _ rfl _ rfl
         show OpOK _ _ _ _ _ _ _
         exact ok_pure (ro_pickT (v := .bool _) rfl rfl) rfl
       refine ⟨?_, ?_⟩
       · rintro - w19 D19
         rintro _ rfl
         show OpOK _ _ _ _ _ _ _
         exact ok_pure (ro_move (v := .bool _) rfl) rfl
       refine ⟨?_, ?_⟩
       · rintro - w20 D20
         rintro _ rfl
         show OpOK _ _ _ _ _ _ _
         exact ok_gno rfl rfl rfl
       refine ⟨?_, ?_⟩
       · rintro - w21 D21
         rintro _ rfl _ rfl
         show OpOK _ _ _ _ _ _ _
         exact ok_gno rfl rfl rfl
       refine ⟨?_, ?_⟩
       · rintro - w22 D22
         rintro _ rfl _ rfl
         show OpOK _ _ _ _ _ _ _
         exact ok_gno rfl rfl rfl
       refine ⟨?_, ?_⟩
       · rintro - w23 D23
         rintro _ rfl
         show OpOK _ _ _ _ _ _ _
         exact ok_gund rfl rfl
       refine ⟨?_, ?_⟩
       · rintro - w24 D24
         rintro _ rfl
         show OpOK _ _ _ _ _ _ _
         exact ok_gund rfl rfl
       refine ⟨?_, ?_⟩
       · rintro - w25 D25
         rintro _ rfl _ rfl
         show OpOK _ _ _ _ _ _ _
         exact ok_gund rfl rfl
       refine ⟨?_, ?_⟩
       · rintro - w26 D26
         rintro _ rfl _ rfl _ rfl
         show OpOK _ _ _ _ _ _ _
         exact ok_gund rfl rfl
       refine ⟨?_, ?_⟩
       · rintro - w27 D27
         rintro _ rfl _ rfl
         show OpOK _ _ _ _ _ _ _
         exact ok_gund rfl rfl
       refine ⟨?_, ?_⟩
       · rintro - w28 D28
         rintro _ rfl _ rfl
         show OpOK _ _ _ _ _ _ _
         exact ok_gund rfl rfl
       refine ⟨?_, ?_⟩
       · rintro - w29 D29
         rintro _ rfl
         show OpOK _ _ _ _ _ _ _
         exact ok_gund rfl rfl
       refine ⟨?_, ?_⟩
       · rintro - w30 D30
         rintro _ rfl
         show OpOK _ _ _ _ _ _ _
         exact ok_gund rfl rfl
       refine ⟨?_, ?_⟩
       · rintro - w31 D31
         rintro _ rfl _ rfl _ rfl
         show OpOK _ _ _ _ _ _ _
         exact ok_gund rfl rfl
       refine ⟨?_, ?_⟩
       · rintro - w32 D32
         rintro _ rfl _ rfl
         show OpOK _ _ _ _ _ _ _
         exact ok_gund rfl rfl
       refine ⟨?_, ?_⟩
       · rintro - w33 D33
         rintro _ rfl _ rfl
         show OpOK _ _ _ _ _ _ _
         exact ok_gund rfl rfl
       refine ⟨?_, ?_⟩
       · rintro - w34 D34
         rintro _ rfl _ rfl _ rfl
         show OpOK _ _ _ _ _ _ _
         exact ok_gund rfl rfl
       refine ⟨?_, ?_⟩
       · rintro - w35 D35
         rintro _ rfl _ rfl _ rfl
         show OpOK _ _ _ _ _ _ _
         exact ok_gno rfl rfl rfl
       refine ⟨?_, ?_⟩
       · rintro - w36 D36
         rintro _ rfl _ rfl
         show OpOK _ _ _ _ _ _ _
         exact ok_pure (ro_pickT (v := .bool _) rfl rfl) rfl
       exact trivial
      case hend =>
       intro w37 D37
       rintro _ rfl _ rfl _ rfl _ rfl v15 rfl _ rfl _ rfl _ rfl _ rfl _ rfl _ rfl _ rfl _ rfl _ rfl _ rfl _ rfl _ rfl _ rfl _ rfl _ rfl _ rfl _ rfl _ rfl _ rfl _ rfl _ rfl _ rfl _ rfl _ rfl _ rfl _ rfl _ rfl _ rfl
       show St _ _ _ _ _ _ _
       refine st_nil (nx_then ?_)
       refine cd_condT rfl ?_
       refine cd_seq (cd_region ?_)
       refine asi rfl ?_
       refine st_nil (nx_then (cd_ret (rt_block (rt_then (rt_then (rt_block (rt_then ?_)))))))
       refine res1 (v := .int _ _) rfl rfl ?_
       exact ⟨int_eq (by rw [doc_1 (fun h => by
         obtain ⟨x1, x2, x3⟩ := h i (by omega)
         first
           | omega
           | exact hnl (x3 (by omega)))]), (hB.next D37)⟩
    · apply cd_drawnD 33 [(11, eqp _), (12, eqp _), (13, eqp _), (14, eqp _), (15, eqp (.string (ds.getD i dd).1)), (16, eqp _), (17, eqp _), (18, eqp _), (19, eqp _), (20, eqp _), (21, eqp _), (22, eqp (.string (ds.getD i dd).1)), (23, eqp _), (24, eqp _), (25, eqp _), (26, eqp _), (27, eqp _), (28, eqp _), (29, eqp _), (30, eqp _), (31, eqp _), (32, eqp _), (33, eqp _), (34, eqp _), (35, eqp _), (36, eqp _), (37, eqp _), (38, eqp _), (39, eqp _), (40, eqp _), (41, eqp _), (42, eqp _), (43, eqp _)] (by repeat first | exact pq_body | refine pq_then ?_ | refine pq_block ?_) (by kernel_rfl) (by kernel_rfl) ⟨eqp_mono _, eqp_mono _, eqp_mono _, eqp_mono _, eqp_mono _, eqp_mono _, eqp_mono _, eqp_mono _, eqp_mono _, eqp_mono _, eqp_mono _, eqp_mono _, eqp_mono _, eqp_mono _, eqp_mono _, eqp_mono _, eqp_mono _, eqp_mono _, eqp_mono _, eqp_mono _, eqp_mono _, eqp_mono _, eqp_mono _, eqp_mono _, eqp_mono _, eqp_mono _, eqp_mono _, eqp_mono _, eqp_mono _, eqp_mono _, eqp_mono _, eqp_mono _, eqp_mono _, trivial⟩
      case hop =>
       refine ⟨?_, ?_⟩
       · rintro - w39 D39
         show OpOK _ _ _ _ _ _ _
         exact ok_pure (ro_move (v := .slice _ _ _) rfl) rfl
       refine ⟨?_, ?_⟩
       · rintro - w40 D40
         show OpOK _ _ _ _ _ _ _
         exact ok_pure (ro_move (v := .int _ _) rfl) rfl
       refine ⟨?_, ?_⟩
       · rintro - w41 D41
         rintro _ rfl _ rfl
         show OpOK _ _ _ _ _ _ _
         exact ok_pure (ro_indexAddrN SegRef_e22 rfl rfl (by omega)) rfl
       refine ⟨?_, ?_⟩
       · rintro - w42 D42
         rintro _ rfl
         show OpOK _ _ _ _ _ _ _
         exact ok_pure (ro_fieldAddr SegRef_f65_0 rfl) rfl
       refine ⟨?_, ?_⟩
       · rintro - w43 D43
         rintro _ rfl
         show OpOK _ _ _ _ _ _ _
         exact ok_pure (ro_load (v := .string (ds.getD i dd).1) SegRef_g9 rfl (cellF (hB.next D43) (hce 0 _ rfl))) rfl
       refine ⟨?_, ?_⟩
       · rintro - w44 D44
         rintro v44_15 rfl
         show OpOK _ _ _ _ _ _ _
         exact ok_pure (ro_bf (ro_eqlS rfl rfl) (by rw [← Bool.not_eq_true, size_get]; omega)) rfl
       refine ⟨?_, ?_⟩
       · rintro - w45 D45
         rintro _ rfl
         show OpOK _ _ _ _ _ _ _
         exact ok_pure (ro_move (v := .bool _) rfl) rfl
       refine ⟨?_, ?_⟩
       · rintro - w46 D46
         rintro _ rfl
         show OpOK _ _ _ _ _ _ _
         exact ok_gpure rfl (ro_move (v := .slice _ _ _) rfl) rfl
       refine ⟨?_, ?_⟩
       · rintro - w47 D47
         rintro _ rfl
         show OpOK _ _ _ _ _ _ _
         exact ok_gpure rfl (ro_move (v := .int _ _) rfl) rfl
       refine ⟨?_, ?_⟩
       · rintro - w48 D48
         rintro _ rfl _ rfl _ rfl
         show OpOK _ _ _ _ _ _ _
         exact ok_gpure rfl (ro_indexAddrN SegRef_e22 rfl rfl (by omega)) rfl
       refine ⟨?_, ?_⟩
       · rintro - w49 D49
         rintro _ rfl _ rfl
         show OpOK _ _ _ _ _ _ _
         exact ok_gpure rfl (ro_fieldAddr SegRef_f65_0 rfl) rfl
       refine ⟨?_, ?_⟩
       · rintro - w50 D50
         rintro _ rfl _ rfl
         show OpOK _ _ _ _ _ _ _
         exact ok_gpure rfl (ro_load (v := .string (ds.getD i dd).1) SegRef_g9 rfl (cellF (hB.next D50) (hce 0 _ rfl))) rfl
       refine ⟨?_, ?_⟩
       · rintro - w51 D51
         rintro _ rfl v51_22 rfl
         show OpOK _ _ _ _ _ _ _
         exact ok_gpure rfl (ro_lenS (by kernel_rfl) rfl) rfl
       refine ⟨?_, ?_⟩
       · rintro - w52 D52
         rintro _ rfl _ rfl
         show OpOK _ _ _ _ _ _ _
         exact ok_gpure rfl (ro_bt (ro_gtr rfl rfl) (decide_eq_true (by omega))) rfl
       refine ⟨?_, ?_⟩
       · rintro - w53 D53
         rintro _ rfl _ rfl
         show OpOK _ _ _ _ _ _ _
         exact ok_pure (ro_pickF (v := .bool _) rfl rfl) rfl
       refine ⟨?_, ?_⟩
       · rintro - w54 D54
         rintro _ rfl
         show OpOK _ _ _ _ _ _ _
         exact ok_pure (ro_move (v := .bool _) rfl) rfl
       refine ⟨?_, ?_⟩
       · rintro - w55 D55
         rintro _ rfl
         show OpOK _ _ _ _ _ _ _
         exact ok_gno rfl rfl rfl
       refine ⟨?_, ?_⟩
       · rintro - w56 D56
         rintro _ rfl _ rfl
         show OpOK _ _ _ _ _ _ _
         exact ok_gno rfl rfl rfl
       refine ⟨?_, ?_⟩
       · rintro - w57 D57
         rintro _ rfl _ rfl
         show OpOK _ _ _ _ _ _ _
         exact ok_gno rfl rfl rfl
       refine ⟨?_, ?_⟩
       · rintro - w58 D58
         rintro _ rfl
         show OpOK _ _ _ _ _ _ _
         exact ok_gund rfl rfl
       refine ⟨?_, ?_⟩
       · rintro - w59 D59
         rintro _ rfl
         show OpOK _ _ _ _ _ _ _
         exact ok_gund rfl rfl
       refine ⟨?_, ?_⟩
       · rintro - w60 D60
         rintro _ rfl _ rfl
         show OpOK _ _ _ _ _ _ _
         exact ok_gund rfl rfl
       refine ⟨?_, ?_⟩
       · rintro - w61 D61
         rintro _ rfl _ rfl _ rfl
         show OpOK _ _ _ _ _ _ _
         exact ok_gund rfl rfl
       refine ⟨?_, ?_⟩
       · rintro - w62 D62
         rintro _ rfl _ rfl
         show OpOK _ _ _ _ _ _ _
         exact ok_gund rfl rfl
       refine ⟨?_, ?_⟩
       · rintro - w63 D63
         rintro _ rfl _ rfl
         show OpOK _ _ _ _ _ _ _
         exact ok_gund rfl rfl
       refine ⟨?_, ?_⟩
       · rintro - w64 D64
         rintro _ rfl
         show OpOK _ _ _ _ _ _ _
         exact ok_gund rfl rfl
       refine ⟨?_, ?_⟩
       · rintro - w65 D65
         rintro _ rfl
         show OpOK _ _ _ _ _ _ _
         exact ok_gund rfl rfl
       refine ⟨?_, ?_⟩
       · rintro - w66 D66
         rintro _ rfl _ rfl _ rfl
         show OpOK _ _ _ _ _ _ _
         exact ok_gund rfl rfl
       refine ⟨?_, ?_⟩
       · rintro - w67 D67
         rintro _ rfl _ rfl
         show OpOK _ _ _ _ _ _ _
         exact ok_gund rfl rfl
       refine ⟨?_, ?_⟩
       · rintro - w68 D68
         rintro _ rfl _ rfl
         show OpOK _ _ _ _ _ _ _
         exact ok_gund rfl rfl
       refine ⟨?_, ?_⟩
       · rintro - w69 D69
         rintro _ rfl _ rfl _ rfl
         show OpOK _ _ _ _ _ _ _
         exact ok_gund rfl rfl
       refine ⟨?_, ?_⟩
       · rintro - w70 D70
         rintro _ rfl _ rfl _ rfl
         show OpOK _ _ _ _ _ _ _
         exact ok_gno rfl rfl rfl
       refine ⟨?_, ?_⟩
       · rintro - w71 D71
         rintro _ rfl _ rfl
         show OpOK _ _ _ _ _ _ _
         exact ok_pure (ro_pickT (v := .bool _) rfl rfl) rfl
       exact trivial
      case hend =>
       intro w72 D72
       rintro _ rfl _ rfl _ rfl _ rfl v15 rfl _ rfl _ rfl _ rfl _ rfl _ rfl _ rfl v22 rfl _ rfl _ rfl _ rfl _ rfl _ rfl _ rfl _ rfl _ rfl _ rfl _ rfl _ rfl _ rfl _ rfl _ rfl _ rfl _ rfl _ rfl _ rfl _ rfl _ rfl _ rfl
       show St _ _ _ _ _ _ _
       refine st_nil (nx_then ?_)
       refine cd_condT rfl ?_
       refine cd_seq (cd_region ?_)
       refine asi rfl ?_
       refine st_nil (nx_then (cd_ret (rt_block (rt_then (rt_then (rt_block (rt_then ?_)))))))
       refine res1 (v := .int _ _) rfl rfl ?_
       exact ⟨int_eq (by rw [doc_1 (fun h => by
         obtain ⟨x1, x2, x3⟩ := h i (by omega)
         first
           | omega
           | exact hnl (x3 (by omega)))]), (hB.next D72)⟩
    · apply cd_drawnD 33 [(11, eqp _), (12, eqp _), (13, eqp _), (14, eqp _), (15, eqp (.string (ds.getD i dd).1)), (16, eqp _), (17, eqp _), (18, eqp _), (19, eqp _), (20, eqp _), (21, eqp _), (22, eqp (.string (ds.getD i dd).1)), (23, eqp _), (24, eqp _), (25, eqp _), (26, eqp _), (27, eqp _), (28, eqp _), (29, eqp _), (30, eqp _), (31, eqp _), (32, eqp _), (33, eqp _), (34, eqp _), (35, eqp _), (36, eqp _), (37, eqp _), (38, eqp _), (39, eqp _), (40, eqp _), (41, eqp _), (42, eqp _), (43, eqp _)] (by repeat first | exact pq_body | refine pq_then ?_ | refine pq_block ?_) (by kernel_rfl) (by kernel_rfl) ⟨eqp_mono _, eqp_mono _, eqp_mono _, eqp_mono _, eqp_mono _, eqp_mono _, eqp_mono _, eqp_mono _, eqp_mono _, eqp_mono _, eqp_mono _, eqp_mono _, eqp_mono _, eqp_mono _, eqp_mono _, eqp_mono _, eqp_mono _, eqp_mono _, eqp_mono _, eqp_mono _, eqp_mono _, eqp_mono _, eqp_mono _, eqp_mono _, eqp_mono _, eqp_mono _, eqp_mono _, eqp_mono _, eqp_mono _, eqp_mono _, eqp_mono _, eqp_mono _, eqp_mono _, trivial⟩
      case hop =>
       refine ⟨?_, ?_⟩
       · rintro - w74 D74
         show OpOK _ _ _ _ _ _ _
         exact ok_pure (ro_move (v := .slice _ _ _) rfl) rfl
       refine ⟨?_, ?_⟩
       · rintro - w75 D75
         show OpOK _ _ _ _ _ _ _
         exact ok_pure (ro_move (v := .int _ _) rfl) rfl
       refine ⟨?_, ?_⟩
       · rintro - w76 D76
         rintro _ rfl _ rfl
         show OpOK _ _ _ _ _ _ _
         exact ok_pure (ro_indexAddrN SegRef_e22 rfl rfl (by omega)) rfl
       refine ⟨?_, ?_⟩
       · rintro - w77 D77
         rintro _ rfl
         show OpOK _ _ _ _ _ _ _
         exact ok_pure (ro_fieldAddr SegRef_f65_0 rfl) rfl
       refine ⟨?_, ?_⟩
       · rintro - w78 D78
         rintro _ rfl
         show OpOK _ _ _ _ _ _ _
         exact ok_pure (ro_load (v := .string (ds.getD i dd).1) SegRef_g9 rfl (cellF (hB.next D78) (hce 0 _ rfl))) rfl
       refine ⟨?_, ?_⟩
       · rintro - w79 D79
         rintro v79_15 rfl
         show OpOK _ _ _ _ _ _ _
         exact ok_pure (ro_bf (ro_eqlS rfl rfl) (by rw [← Bool.not_eq_true, size_get]; omega)) rfl
       refine ⟨?_, ?_⟩
       · rintro - w80 D80
         rintro _ rfl
         show OpOK _ _ _ _ _ _ _
         exact ok_pure (ro_move (v := .bool _) rfl) rfl
       refine ⟨?_, ?_⟩
       · rintro - w81 D81
         rintro _ rfl
         show OpOK _ _ _ _ _ _ _
         exact ok_gpure rfl (ro_move (v := .slice _ _ _) rfl) rfl
       refine ⟨?_, ?_⟩
       · rintro - w82 D82
         rintro _ rfl
         show OpOK _ _ _ _ _ _ _
         exact ok_gpure rfl (ro_move (v := .int _ _) rfl) rfl
       refine ⟨?_, ?_⟩
       · rintro - w83 D83
         rintro _ rfl _ rfl _ rfl
         show OpOK _ _ _ _ _ _ _
         exact ok_gpure rfl (ro_indexAddrN SegRef_e22 rfl rfl (by omega)) rfl
       refine ⟨?_, ?_⟩
       · rintro - w84 D84
         rintro _ rfl _ rfl
         show OpOK _ _ _ _ _ _ _
         exact ok_gpure rfl (ro_fieldAddr SegRef_f65_0 rfl) rfl
       refine ⟨?_, ?_⟩
       · rintro - w85 D85
         rintro _ rfl _ rfl
         show OpOK _ _ _ _ _ _ _
         exact ok_gpure rfl (ro_load (v := .string (ds.getD i dd).1) SegRef_g9 rfl (cellF (hB.next D85) (hce 0 _ rfl))) rfl
       refine ⟨?_, ?_⟩
       · rintro - w86 D86
         rintro _ rfl v86_22 rfl
         show OpOK _ _ _ _ _ _ _
         exact ok_gpure rfl (ro_lenS (by kernel_rfl) rfl) rfl
       refine ⟨?_, ?_⟩
       · rintro - w87 D87
         rintro _ rfl _ rfl
         show OpOK _ _ _ _ _ _ _
         exact ok_gpure rfl (ro_bf (ro_gtr rfl rfl) (decide_eq_false (by omega))) rfl
       refine ⟨?_, ?_⟩
       · rintro - w88 D88
         rintro _ rfl _ rfl
         show OpOK _ _ _ _ _ _ _
         exact ok_pure (ro_pickF (v := .bool _) rfl rfl) rfl
       refine ⟨?_, ?_⟩
       · rintro - w89 D89
         rintro _ rfl
         show OpOK _ _ _ _ _ _ _
         exact ok_pure (ro_move (v := .bool _) rfl) rfl
       refine ⟨?_, ?_⟩
       · rintro - w90 D90
         rintro _ rfl
         show OpOK _ _ _ _ _ _ _
         exact ok_gpure rfl (ro_move (v := .int _ _) rfl) rfl
       refine ⟨?_, ?_⟩
       · rintro - w91 D91
         rintro _ rfl _ rfl
         show OpOK _ _ _ _ _ _ _
         exact ok_gpure rfl (ro_bf (ro_gtr rfl rfl) (decide_eq_false (by omega))) rfl
       refine ⟨?_, ?_⟩
       · rintro - w92 D92
         rintro _ rfl _ rfl
         show OpOK _ _ _ _ _ _ _
         exact ok_gpure rfl (ro_move (v := .bool _) rfl) rfl
       refine ⟨?_, ?_⟩
       · rintro - w93 D93
         rintro _ rfl
         show OpOK _ _ _ _ _ _ _
         exact ok_gno rfl rfl rfl
       refine ⟨?_, ?_⟩
       · rintro - w94 D94
         rintro _ rfl
         show OpOK _ _ _ _ _ _ _
         exact ok_gno rfl rfl rfl
       refine ⟨?_, ?_⟩
       · rintro - w95 D95
         rintro _ rfl _ rfl
         show OpOK _ _ _ _ _ _ _
         exact ok_gno rfl rfl rfl
       refine ⟨?_, ?_⟩
       · rintro - w96 D96
         rintro _ rfl _ rfl _ rfl
         show OpOK _ _ _ _ _ _ _
         exact ok_gno rfl rfl rfl
       refine ⟨?_, ?_⟩
       · rintro - w97 D97
         rintro _ rfl _ rfl
         show OpOK _ _ _ _ _ _ _
         exact ok_gno rfl rfl rfl
       refine ⟨?_, ?_⟩
       · rintro - w98 D98
         rintro _ rfl _ rfl
         show OpOK _ _ _ _ _ _ _
         exact ok_gno rfl rfl rfl
       refine ⟨?_, ?_⟩
       · rintro - w99 D99
         rintro _ rfl
         show OpOK _ _ _ _ _ _ _
         exact ok_gno rfl rfl rfl
       refine ⟨?_, ?_⟩
       · rintro - w100 D100
         rintro _ rfl
         show OpOK _ _ _ _ _ _ _
         exact ok_gno rfl rfl rfl
       refine ⟨?_, ?_⟩
       · rintro - w101 D101
         rintro _ rfl _ rfl _ rfl
         show OpOK _ _ _ _ _ _ _
         exact ok_gno rfl rfl rfl
       refine ⟨?_, ?_⟩
       · rintro - w102 D102
         rintro _ rfl _ rfl
         show OpOK _ _ _ _ _ _ _
         exact ok_gno rfl rfl rfl
       refine ⟨?_, ?_⟩
       · rintro - w103 D103
         rintro _ rfl _ rfl
         show OpOK _ _ _ _ _ _ _
         exact ok_gno rfl rfl rfl
       refine ⟨?_, ?_⟩
       · rintro - w104 D104
         rintro _ rfl _ rfl _ rfl
         show OpOK _ _ _ _ _ _ _
         exact ok_gno rfl rfl rfl
       refine ⟨?_, ?_⟩
       · rintro - w105 D105
         rintro _ rfl _ rfl _ rfl
         show OpOK _ _ _ _ _ _ _
         exact ok_gpure rfl (ro_pickF (v := .bool _) rfl rfl) rfl
       refine ⟨?_, ?_⟩
       · rintro - w106 D106
         rintro _ rfl _ rfl
         show OpOK _ _ _ _ _ _ _
         exact ok_pure (ro_pickF (v := .bool _) rfl rfl) rfl
       exact trivial
      case hend =>
       intro w107 D107
       rintro _ rfl _ rfl _ rfl _ rfl v15 rfl _ rfl _ rfl _ rfl _ rfl _ rfl _ rfl v22 rfl _ rfl _ rfl _ rfl _ rfl _ rfl _ rfl _ rfl _ rfl _ rfl _ rfl _ rfl _ rfl _ rfl _ rfl _ rfl _ rfl _ rfl _ rfl _ rfl _ rfl _ rfl
       show St _ _ _ _ _ _ _
       refine st_nil (nx_then ?_)
       refine cd_condF rfl ?_
       refine cd_skip (nx_block (nx_then (cd_region ?_)))
       refine mvi rfl ?_
       refine st_val (ro_addN (b := 1) rfl rfl (by omega)) ?_
       refine asi rfl ?_
       refine st_nil ?_
       refine nx_cut (i + 1) ⟨(by first | rfl | (refine int_eq ?_; omega)), trivial⟩ (by (iterate 81 refine agr_cons rfl ?_); exact agr_rfl) ⟨?_, ?_⟩
       · have hoi : okI ds i := by first | exact ⟨by omega, by omega, fun h => absurd h (by omega)⟩ | exact ⟨by omega, by omega, fun _ => hlt⟩
         exact ⟨by omega, fun x hx => by
           rcases Nat.eq_or_lt_of_le (Nat.le_of_lt_succ hx) with e | e
           · subst e; exact hoi
           · exact hok x e, (hB.next D107)⟩
       · show n - (i + 1) < n - i; omega
    apply cd_drawnD 33 [(11, eqp _), (12, eqp _), (13, eqp _), (14, eqp _), (15, eqp (.string (ds.getD i dd).1)), (16, eqp _), (17, eqp _), (18, eqp _), (19, eqp _), (20, eqp _), (21, eqp _), (22, eqp (.string (ds.getD i dd).1)), (23, eqp _), (24, eqp _), (25, eqp _), (26, eqp _), (27, eqp _), (28, eqp _), (29, eqp _), (30, eqp _), (31, eqp _), (32, eqp _), (33, eqp _), (34, eqp _), (35, eqp (.string (ds.getD (i - 1) dd).1)), (36, eqp _), (37, eqp _), (38, eqp _), (39, eqp _), (40, eqp (.string (ds.getD i dd).1)), (41, eqp _), (42, eqp _), (43, eqp _)] (by repeat first | exact pq_body | refine pq_then ?_ | refine pq_block ?_) (by kernel_rfl) (by kernel_rfl) ⟨eqp_mono _, eqp_mono _, eqp_mono _, eqp_mono _, eqp_mono _, eqp_mono _, eqp_mono _, eqp_mono _, eqp_mono _, eqp_mono _, eqp_mono _, eqp_mono _, eqp_mono _, eqp_mono _, eqp_mono _, eqp_mono _, eqp_mono _, eqp_mono _, eqp_mono _, eqp_mono _, eqp_mono _, eqp_mono _, eqp_mono _, eqp_mono _, eqp_mono _, eqp_mono _, eqp_mono _, eqp_mono _, eqp_mono _, eqp_mono _, eqp_mono _, eqp_mono _, eqp_mono _, trivial⟩
    case hop =>
     refine ⟨?_, ?_⟩
     · rintro - w109 D109
       show OpOK _ _ _ _ _ _ _
       exact ok_pure (ro_move (v := .slice _ _ _) rfl) rfl
     refine ⟨?_, ?_⟩
     · rintro - w110 D110
       show OpOK _ _ _ _ _ _ _
       exact ok_pure (ro_move (v := .int _ _) rfl) rfl
     refine ⟨?_, ?_⟩
     · rintro - w111 D111
       rintro _ rfl _ rfl
       show OpOK _ _ _ _ _ _ _
       exact ok_pure (ro_indexAddrN SegRef_e22 rfl rfl (by omega)) rfl
     refine ⟨?_, ?_⟩
     · rintro - w112 D112
       rintro _ rfl
       show OpOK _ _ _ _ _ _ _
       exact ok_pure (ro_fieldAddr SegRef_f65_0 rfl) rfl
     refine ⟨?_, ?_⟩
     · rintro - w113 D113
       rintro _ rfl
       show OpOK _ _ _ _ _ _ _
       exact ok_pure (ro_load (v := .string (ds.getD i dd).1) SegRef_g9 rfl (cellF (hB.next D113) (hce 0 _ rfl))) rfl
     refine ⟨?_, ?_⟩
     · rintro - w114 D114
       rintro v114_15 rfl
       show OpOK _ _ _ _ _ _ _
       exact ok_pure (ro_bf (ro_eqlS rfl rfl) (by rw [← Bool.not_eq_true, size_get]; omega)) rfl
     refine ⟨?_, ?_⟩
     · rintro - w115 D115
       rintro _ rfl
       show OpOK _ _ _ _ _ _ _
       exact ok_pure (ro_move (v := .bool _) rfl) rfl
     refine ⟨?_, ?_⟩
     · rintro - w116 D116
       rintro _ rfl
       show OpOK _ _ _ _ _ _ _
       exact ok_gpure rfl (ro_move (v := .slice _ _ _) rfl) rfl
     refine ⟨?_, ?_⟩
     · rintro - w117 D117
       rintro _ rfl
       show OpOK _ _ _ _ _ _ _
       exact ok_gpure rfl (ro_move (v := .int _ _) rfl) rfl
     refine ⟨?_, ?_⟩
     · rintro - w118 D118
       rintro _ rfl _ rfl _ rfl
       show OpOK _ _ _ _ _ _ _
       exact ok_gpure rfl (ro_indexAddrN SegRef_e22 rfl rfl (by omega)) rfl
     refine ⟨?_, ?_⟩
     · rintro - w119 D119
       rintro _ rfl _ rfl
       show OpOK _ _ _ _ _ _ _
       exact ok_gpure rfl (ro_fieldAddr SegRef_f65_0 rfl) rfl
     refine ⟨?_, ?_⟩
     · rintro - w120 D120
       rintro _ rfl _ rfl
       show OpOK _ _ _ _ _ _ _
       exact ok_gpure rfl (ro_load (v := .string (ds.getD i dd).1) SegRef_g9 rfl (cellF (hB.next D120) (hce 0 _ rfl))) rfl
     refine ⟨?_, ?_⟩
     · rintro - w121 D121
       rintro _ rfl v121_22 rfl
       show OpOK _ _ _ _ _ _ _
       exact ok_gpure rfl (ro_lenS (by kernel_rfl) rfl) rfl
     refine ⟨?_, ?_⟩
     · rintro - w122 D122
       rintro _ rfl _ rfl
       show OpOK _ _ _ _ _ _ _
       exact ok_gpure rfl (ro_bf (ro_gtr rfl rfl) (decide_eq_false (by omega))) rfl
     refine ⟨?_, ?_⟩
     · rintro - w123 D123
       rintro _ rfl _ rfl
       show OpOK _ _ _ _ _ _ _
       exact ok_pure (ro_pickF (v := .bool _) rfl rfl) rfl
     refine ⟨?_, ?_⟩
     · rintro - w124 D124
       rintro _ rfl
       show OpOK _ _ _ _ _ _ _
       exact ok_pure (ro_move (v := .bool _) rfl) rfl
     refine ⟨?_, ?_⟩
     · rintro - w125 D125
       rintro _ rfl
       show OpOK _ _ _ _ _ _ _
       exact ok_gpure rfl (ro_move (v := .int _ _) rfl) rfl
     refine ⟨?_, ?_⟩
     · rintro - w126 D126
       rintro _ rfl _ rfl
       show OpOK _ _ _ _ _ _ _
       exact ok_gpure rfl (ro_bt (ro_gtr rfl rfl) (decide_eq_true (by omega))) rfl
     refine ⟨?_, ?_⟩
     · rintro - w127 D127
       rintro _ rfl _ rfl
       show OpOK _ _ _ _ _ _ _
       exact ok_gpure rfl (ro_move (v := .bool _) rfl) rfl
     refine ⟨?_, ?_⟩
     · rintro - w128 D128
       rintro _ rfl
       show OpOK _ _ _ _ _ _ _
       exact ok_gpure rfl (ro_move (v := .slice _ _ _) rfl) rfl
     refine ⟨?_, ?_⟩
     · rintro - w129 D129
       rintro _ rfl
       show OpOK _ _ _ _ _ _ _
       exact ok_gpure rfl (ro_move (v := .int _ _) rfl) rfl
     refine ⟨?_, ?_⟩
     · rintro - w130 D130
       rintro _ rfl _ rfl
       show OpOK _ _ _ _ _ _ _
       exact ok_gpure rfl (ro_subN (b := 1) rfl rfl (by omega)) rfl
     refine ⟨?_, ?_⟩
     · rintro - w131 D131
       rintro _ rfl _ rfl _ rfl
       show OpOK _ _ _ _ _ _ _
       exact ok_gpure rfl (ro_indexAddrN SegRef_e22 rfl rfl (by omega)) rfl
     refine ⟨?_, ?_⟩
     · rintro - w132 D132
       rintro _ rfl _ rfl
       show OpOK _ _ _ _ _ _ _
       exact ok_gpure rfl (ro_fieldAddr SegRef_f65_0 rfl) rfl
     refine ⟨?_, ?_⟩
     · rintro - w133 D133
       rintro _ rfl _ rfl
       show OpOK _ _ _ _ _ _ _
       exact ok_gpure rfl (ro_load (v := .string (ds.getD (i - 1) dd).1) SegRef_g9 rfl (cellF (hB.next D133) (hcp (by omega) 0 _ rfl))) rfl
     refine ⟨?_, ?_⟩
     · rintro - w134 D134
       rintro _ rfl
       show OpOK _ _ _ _ _ _ _
       exact ok_gpure rfl (ro_move (v := .slice _ _ _) rfl) rfl
     refine ⟨?_, ?_⟩
     · rintro - w135 D135
       rintro _ rfl
       show OpOK _ _ _ _ _ _ _
       exact ok_gpure rfl (ro_move (v := .int _ _) rfl) rfl
     refine ⟨?_, ?_⟩
     · rintro - w136 D136
       rintro _ rfl _ rfl _ rfl
       show OpOK _ _ _ _ _ _ _
       exact ok_gpure rfl (ro_indexAddrN SegRef_e22 rfl rfl (by omega)) rfl
     refine ⟨?_, ?_⟩
     · rintro - w137 D137
       rintro _ rfl _ rfl
       show OpOK _ _ _ _ _ _ _
       exact ok_gpure rfl (ro_fieldAddr SegRef_f65_0 rfl) rfl
     refine ⟨?_, ?_⟩
     · rintro - w138 D138
       rintro _ rfl _ rfl
       show OpOK _ _ _ _ _ _ _
       exact ok_gpure rfl (ro_load (v := .string (ds.getD i dd).1) SegRef_g9 rfl (cellF (hB.next D138) (hce 0 _ rfl))) rfl
     refine ⟨?_, ?_⟩
     · rintro - w139 D139
       rintro _ rfl v139_35 rfl v139_40 rfl
       show OpOK _ _ _ _ _ _ _
       exact ok_gpure rfl (ro_geqS rfl rfl) rfl
     refine ⟨?_, ?_⟩
     · rintro - w140 D140
       rintro _ rfl _ rfl _ rfl
       show OpOK _ _ _ _ _ _ _
       exact ok_gpure rfl (ro_pickT (v := .bool _) rfl rfl) rfl
     refine ⟨?_, ?_⟩
     · rintro - w141 D141
       rintro _ rfl _ rfl
       show OpOK _ _ _ _ _ _ _
       exact ok_pure (ro_pickF (v := .bool _) rfl rfl) rfl
     exact trivial
    case hend =>
     intro w142 D142
     rintro _ rfl _ rfl _ rfl _ rfl v15 rfl _ rfl _ rfl _ rfl _ rfl _ rfl _ rfl v22 rfl _ rfl _ rfl _ rfl _ rfl _ rfl _ rfl _ rfl _ rfl _ rfl _ rfl _ rfl _ rfl v35 rfl _ rfl _ rfl _ rfl _ rfl v40 rfl _ rfl _ rfl _ rfl
     show St _ _ _ _ _ _ _
     refine st_nil (nx_then ?_)
     refine cd_cond rfl (fun Q143 => ?_) (fun Q143 => ?_)
     · with_reducible replace Q143 := bn_t Q143
       have hnl : ¬ sLt (ds.getD (i - 1) dd).1 (ds.getD i dd).1 := fun h => by
         have h9 := (sLt_dec _ _).2 h
         simp_all
       refine cd_seq (cd_region ?_)
       refine asi rfl ?_
       refine st_nil (nx_then (cd_ret (rt_block (rt_then (rt_then (rt_block (rt_then ?_)))))))
       refine res1 (v := .int _ _) rfl rfl ?_
       exact ⟨int_eq (by rw [doc_1 (fun h => by
         obtain ⟨x1, x2, x3⟩ := h i (by omega)
         first
           | omega
           | exact hnl (x3 (by omega)))]), (hB.next D142)⟩
     with_reducible replace Q143 := bn_f Q143
     have hlt : sLt (ds.getD (i - 1) dd).1 (ds.getD i dd).1 := (sLt_dec _ _).1 (by simpa using Q143)
     refine cd_skip (nx_block (nx_then (cd_region ?_)))
     refine mvi rfl ?_
     refine st_val (ro_addN (b := 1) rfl rfl (by omega)) ?_
     refine asi rfl ?_
     refine st_nil ?_
     refine nx_cut (i + 1) ⟨(by first | rfl | (refine int_eq ?_; omega)), trivial⟩ (by (iterate 81 refine agr_cons rfl ?_); exact agr_rfl) ⟨?_, ?_⟩
     · have hoi : okI ds i := by first | exact ⟨by omega, by omega, fun h => absurd h (by omega)⟩ | exact ⟨by omega, by omega, fun _ => hlt⟩
       exact ⟨by omega, fun x hx => by
         rcases Nat.eq_or_lt_of_le (Nat.le_of_lt_succ hx) with e | e
         · subst e; exact hoi
         · exact hok x e, (hB.next D142)⟩
     · show n - (i + 1) < n - i; omega
  with_reducible replace Q2 := of_decide_eq_false Q2
  have hord : DOrd ds := fun x hx => hok x (by omega)
  refine cd_exit ?_
  refine ex_then (ex_then (ex_block (nx_then (cd_seq (cd_seq (cd_region ?_))))))
  refine mvs rfl ?_
  refine st_val (ro_len SegRef_l22 rfl) ?_
  refine st_val (ro_gtr rfl rfl) ?_
  refine st_nil (nx_then ?_)
  refine cd_cond rfl (fun Q144 => ?_) (fun Q144 => ?_)
  · with_reducible replace Q144 := of_decide_eq_true Q144
    refine cd_seq (cd_region ?_)
    refine asi rfl ?_
    refine st_nil (nx_then (cd_ret (rt_then ?_)))
    refine res1 (v := .int _ _) rfl rfl ?_
    exact ⟨int_eq (by rw [doc_2 hord (fun h => by have := h.1; omega)]), hB⟩
  with_reducible replace Q144 := of_decide_eq_false Q144
  refine cd_skip (nx_then (cd_seq (cd_seq (cd_region ?_))))
  refine asi rfl ?_
  refine st_nil (nx_then (cd_block ?_))
  refine cd_loop (G := Nat) [2, 47, 48, 49, 50, 51, 52, 53, 54, 55, 56, 57, 58, 59] (fun i => [(4, .int .i64 (i : Nat))]) (fun i w' => i ≤ n ∧ (∀ x, x < i → (ds.getD x dd).2.size ≤ 2048) ∧ From w w') (fun i => n - i) (0) ⟨rfl, trivial⟩ ?_ ?_
  · exact ⟨Nat.zero_le _, fun x h => absurd h (by omega), hB⟩
  rintro i ρ145 w145 ⟨hi, hok2, hB⟩
  refine cd_seq (cd_seq (cd_region ?_))
  refine mvi rfl ?_
  refine mvs rfl ?_
  refine st_val (ro_len SegRef_l22 rfl) ?_
  refine st_val (ro_lss rfl rfl) ?_
  refine st_nil (nx_then ?_)
  refine cd_cond rfl (fun Q146 => ?_) (fun Q146 => ?_)
  · with_reducible replace Q146 := of_decide_eq_true Q146
    obtain ⟨bd, od, rfl, hcd⟩ := hr (by omega)
    have hil : i < ds.length := by omega
    have hce := hcd i hil
    rw [← getD_get hil] at hce
    refine cd_skip (nx_then (cd_seq (cd_block (cd_seq (cd_region ?_)))))
    refine mvs rfl ?_
    refine mvi rfl ?_
    refine st_val (ro_indexAddrN SegRef_e22 rfl rfl (by omega)) ?_
    refine st_val (ro_fieldAddr SegRef_f65_1 rfl) ?_
    refine st_val (ro_load SegRef_g9 rfl (by exact cellF hB (hce 1 _ rfl))) ?_
    refine st_val (ro_lenS (by kernel_rfl) rfl) ?_
    refine st_val (ro_gtr rfl rfl) ?_
    refine st_nil (nx_then ?_)
    refine cd_cond rfl (fun Q147 => ?_) (fun Q147 => ?_)
    · with_reducible replace Q147 := of_decide_eq_true Q147
      refine cd_seq (cd_region ?_)
      refine asi rfl ?_
      refine st_nil (nx_then (cd_ret (rt_block (rt_then (rt_then (rt_block (rt_then ?_)))))))
      refine res1 (v := .int _ _) rfl rfl ?_
      exact ⟨int_eq (by rw [doc_2 hord (fun h => by have := h.2.1 (ds.getD i dd) (by rw [getD_get (show i < ds.length by omega)]; exact List.getElem_mem _); omega)]), hB⟩
    with_reducible replace Q147 := of_decide_eq_false Q147
    refine cd_skip (nx_block (nx_then (cd_region ?_)))
    refine mvi rfl ?_
    refine st_val (ro_addN (b := 1) rfl rfl (by omega)) ?_
    refine asi rfl ?_
    refine st_nil ?_
    refine nx_cut (i + 1) ⟨(by first | rfl | (refine int_eq ?_; omega)), trivial⟩ (by (iterate 29 refine agr_cons rfl ?_); exact agr_rfl) ⟨?_, ?_⟩
    · exact ⟨by omega, fun x hx => by
        rcases Nat.eq_or_lt_of_le (Nat.le_of_lt_succ hx) with e | e
        · subst e; omega
        · exact hok2 x e, hB⟩
    · show n - (i + 1) < n - i; omega
  with_reducible replace Q146 := of_decide_eq_false Q146
  have hall : ∀ d ∈ ds, d.2.size ≤ 2048 := fun d hd => by
    obtain ⟨x, hx, rfl⟩ := List.getElem_of_mem hd
    have := hok2 x (by omega)
    rwa [getD_get hx] at this
  have hdm := dsz_many hall
  refine cd_exit ?_
  refine ex_then (ex_then (ex_block (nx_then (cd_seq (cd_seq (cd_region ?_))))))
  refine mvs rfl ?_
  refine st_call SegRef_k47 (refSize_rt A c n ds _ (hr.from_ hB) hn hl (by omega)) ?_
  rintro v61 w148 ⟨rfl, E61⟩
  refine st_val (ro_gtr rfl rfl) ?_
  refine st_nil (nx_then ?_)
  refine cd_cond rfl (fun Q149 => ?_) (fun Q149 => ?_)
  · with_reducible replace Q149 := of_decide_eq_true Q149
    refine cd_seq (cd_region ?_)
    refine asi rfl ?_
    refine st_nil (nx_then (cd_ret (rt_then ?_)))
    refine res1 (v := .int _ _) rfl rfl ?_
    exact ⟨int_eq (by rw [doc_2 hord (fun h => by have := h.2.2; omega)]), (hB.next E61)⟩
  with_reducible replace Q149 := of_decide_eq_false Q149
  refine cd_skip (nx_then (cd_seq (cd_region ?_)))
  refine asi rfl ?_
  refine st_nil (nx_then (cd_ret ?_))
  refine res1 (v := .int _ _) rfl rfl ?_
  exact ⟨int_eq (by rw [doc_0 hord ⟨by omega, hall, by omega⟩]), (hB.next E61)⟩
def askP (p : ByteArray) (limit : Int) : Int := if p.size = 0 then 5 else if 4096 < p.size ∨ limit < 1 ∨ 1000 < limit then 2 else 0
theorem ask_one (p : ByteArray) : askP p 1 = patE p := by
  unfold askP patE
  by_cases h : p.size = 0
  · rw [if_pos h, if_pos h]
  · rw [if_neg h, if_neg h]
    by_cases h2 : 4096 < p.size
    · rw [if_pos (by omega), if_pos h2]
    · rw [if_neg (by omega), if_neg h2]
set_option maxHeartbeats 400000 in
theorem refAsks_rt (p : ByteArray) (limit : Int) (w : World) :
    Rt Try.prog 10 [.string p, .int .i64 limit] w (fun v w' => v = .int .i64 (askP p limit) ∧ From w w') := by
  refine enter (n := 18) Try.func10 rfl rfl rfl ?_
  refine cd_seq (cd_region ?_)
  refine asi rfl ?_
  refine st_nil (nx_then (cd_seq (cd_seq (cd_region ?_))))
  refine mvg rfl ?_
  refine st_val (ro_eqlS rfl rfl) ?_
  refine st_nil (nx_then ?_)
  refine cd_cond rfl (fun Q1 => ?_) (fun Q1 => ?_)
  · with_reducible replace Q1 := be_t Q1
    have hp0 : p.size = 0 := size_get.1 (by simpa using Q1)
    refine cd_seq (cd_region ?_)
    refine asi rfl ?_
    refine st_nil (nx_then (cd_ret (rt_then ?_)))
    refine res1 (v := .int _ _) rfl rfl ?_
    exact ⟨int_eq (by unfold askP; rw [if_pos hp0]), From.rfl_⟩
  with_reducible replace Q1 := be_f Q1
  have hp0 : p.size ≠ 0 := fun h9 => by have := size_get.2 h9; simp_all
  refine cd_skip (nx_then (cd_seq (cd_seq (cd_region ?_))))
  refine mvg rfl ?_
  refine st_val (ro_lenS (by kernel_rfl) rfl) ?_
  refine st_val (ro_gtr rfl rfl) ?_
  refine mvb rfl ?_
  refine st_split (t := 10) rfl (fun Q2 => ?_) (fun Q2 => ?_)
  · with_reducible replace Q2 := of_decide_eq_true Q2
    refine st_gno rfl rfl ?_
    refine st_gno rfl rfl ?_
    refine st_val (ro_pickT (v := .bool _) rfl rfl) ?_
    refine mvb rfl ?_
    refine st_gno rfl rfl ?_
    refine st_gno rfl rfl ?_
    refine st_val (ro_pickT (v := .bool _) rfl rfl) ?_
    refine st_nil (nx_then ?_)
    refine cd_condT rfl ?_
    refine cd_seq (cd_region ?_)
    refine asi rfl ?_
    refine st_nil (nx_then (cd_ret (rt_then ?_)))
    refine res1 (v := .int _ _) rfl rfl ?_
    exact ⟨int_eq (by unfold askP; rw [if_neg hp0, if_pos (by omega)]), From.rfl_⟩
  with_reducible replace Q2 := of_decide_eq_false Q2
  refine st_unguard rfl ?_
  refine mvi rfl ?_
  refine st_unguard rfl ?_
  refine st_val (ro_lss rfl rfl) ?_
  refine st_val (ro_pickF (v := .bool _) rfl rfl) ?_
  refine mvb rfl ?_
  refine st_split (t := 14) rfl (fun Q3 => ?_) (fun Q3 => ?_)
  · with_reducible replace Q3 := of_decide_eq_true Q3
    refine st_gno rfl rfl ?_
    refine st_gno rfl rfl ?_
    refine st_val (ro_pickT (v := .bool _) rfl rfl) ?_
    refine st_nil (nx_then ?_)
    refine cd_condT rfl ?_
    refine cd_seq (cd_region ?_)
    refine asi rfl ?_
    refine st_nil (nx_then (cd_ret (rt_then ?_)))
    refine res1 (v := .int _ _) rfl rfl ?_
    exact ⟨int_eq (by unfold askP; rw [if_neg hp0, if_pos (by omega)]), From.rfl_⟩
  with_reducible replace Q3 := of_decide_eq_false Q3
  refine st_unguard rfl ?_
  refine mvi rfl ?_
  refine st_unguard rfl ?_
  refine st_val (ro_gtr rfl rfl) ?_
  refine st_val (ro_pickF (v := .bool _) rfl rfl) ?_
  refine st_nil (nx_then ?_)
  refine cd_cond rfl (fun Q4 => ?_) (fun Q4 => ?_)
  · with_reducible replace Q4 := of_decide_eq_true Q4
    refine cd_seq (cd_region ?_)
    refine asi rfl ?_
    refine st_nil (nx_then (cd_ret (rt_then ?_)))
    refine res1 (v := .int _ _) rfl rfl ?_
    exact ⟨int_eq (by unfold askP; rw [if_neg hp0, if_pos (by omega)]), From.rfl_⟩
  with_reducible replace Q4 := of_decide_eq_false Q4
  refine cd_skip (nx_then (cd_seq (cd_region ?_)))
  refine asi rfl ?_
  refine st_nil (nx_then (cd_ret ?_))
  refine res1 (v := .int _ _) rfl rfl ?_
  exact ⟨int_eq (by unfold askP; rw [if_neg hp0, if_neg (by omega)]), From.rfl_⟩
set_option maxHeartbeats 3000000 in
theorem refHits_rt (A : Option Addr) (c n : Nat) (ds : List Dc) (w : World) (hr : RowK 2 dV w A ds) (hn : n = ds.length) (hl : n ≤ 100000000) (p : ByteArray) (hp0 : p.size ≠ 0) (hp : p.size ≤ 140737488351232) (hz : dsz ds ≤ 100000000) :
    Rt Try.prog 11 [.slice A n c, .string p] w (fun v w' => (∃ A' c', v = .slice A' (hits ds p).length c' ∧ w'.ownsRow w.heap.size 63 2 (.slice A' (hits ds p).length c') (hits ds p).length ((hits ds p).flatMap hV)) ∧ From w w') := by
  refine enter (n := 51) Try.func11 rfl rfl rfl ?_
  refine cd_seq (cd_region ?_)
  refine ass rfl ?_
  refine st_nil (nx_then (cd_seq (cd_region ?_)))
  refine ass rfl ?_
  refine st_nil (nx_then (cd_seq (cd_seq (cd_region ?_))))
  refine asi rfl ?_
  refine st_nil (nx_then (cd_block ?_))
  refine cd_loop (G := Nat × Option Addr × Nat) [7, 8, 9, 10, 11, 12, 13, 14, 15, 16, 17, 18, 19, 20, 21, 22, 23, 24, 25, 26, 27, 28, 29, 30, 31, 32, 33, 34, 35, 36, 37, 38, 39, 40, 41, 42, 43, 44, 45, 46, 47, 48, 49] (fun (i, A5, c5) => [(6, .int .i64 (i : Nat)), (5, .slice A5 (hits (ds.take i) p).length c5)]) (fun (i, A5, c5) w' => i ≤ n ∧ w'.ownsRow w.heap.size 63 2 (.slice A5 (hits (ds.take i) p).length c5) (hits (ds.take i) p).length ((hits (ds.take i) p).flatMap hV) ∧ From w w') (fun (i, _, _) => n - i) ((0, none, 0)) ⟨rfl, rfl, trivial⟩ ?_ ?_
  · exact ⟨Nat.zero_le _, World.ownsRow_nil _ _ _ _, From.rfl_⟩
  rintro ⟨i, A5, c5⟩ ρ1 w1 ⟨hi, ho, hB⟩
  refine cd_seq (cd_seq (cd_region ?_))
  refine mvi rfl ?_
  refine mvs rfl ?_
  refine st_val (ro_len SegRef_l22 rfl) ?_
  refine st_val (ro_lss rfl rfl) ?_
  refine st_nil (nx_then ?_)
  refine cd_cond rfl (fun Q2 => ?_) (fun Q2 => ?_)
  · with_reducible replace Q2 := of_decide_eq_true Q2
    obtain ⟨bd, od, rfl, hcd⟩ := hr (by omega)
    have hil : i < ds.length := by omega
    have hce := hcd i hil
    rw [← getD_get hil] at hce
    have hdm := dsz_mem (show ds.getD i dd ∈ ds by rw [getD_get hil]; exact List.getElem_mem hil)
    have hnb := hits_le (p := p) (ds.take i)
    have hnz := dsz_le (ds := ds) i
    have hnt := List.length_take_le i ds
    refine cd_skip (nx_then (cd_seq (cd_block (cd_seq (cd_region ?_)))))
    refine asi rfl ?_
    refine st_nil (nx_then (cd_block ?_))
    refine cd_loop (G := Nat × Option Addr × Nat) [14, 15, 16, 17, 18, 19, 20, 21, 22, 23, 24, 25, 26, 27, 28, 29, 30, 31, 32, 33, 34, 35, 36, 37, 38, 39, 40, 41, 42, 43, 44, 45, 46, 47, 48, 49] (fun (k, A5, c5) => [(7, .int .i64 (k : Nat)), (5, .slice A5 ((hits (ds.take i) p) ++ (ksTo (txt (ds.getD i dd).2) (txt p) k).map fun k => ((ds.getD i dd).1, ((k : Nat) : Int))).length c5)]) (fun (k, A5, c5) w' => k ≤ (ds.getD i dd).2.size + 1 ∧ (k = 0 ∨ k + p.size ≤ (ds.getD i dd).2.size + 1) ∧ w'.ownsRow w.heap.size 63 2 (.slice A5 ((hits (ds.take i) p) ++ (ksTo (txt (ds.getD i dd).2) (txt p) k).map fun k => ((ds.getD i dd).1, ((k : Nat) : Int))).length c5) ((hits (ds.take i) p) ++ (ksTo (txt (ds.getD i dd).2) (txt p) k).map fun k => ((ds.getD i dd).1, ((k : Nat) : Int))).length (((hits (ds.take i) p) ++ (ksTo (txt (ds.getD i dd).2) (txt p) k).map fun k => ((ds.getD i dd).1, ((k : Nat) : Int))).flatMap hV) ∧ From w w') (fun (k, _, _) => (ds.getD i dd).2.size + 1 - k) ((0, A5, c5)) ⟨rfl, (by rw [show ksTo (txt (ds.getD i dd).2) (txt p) 0 = [] from rfl, List.map_nil, List.append_nil]; rfl), trivial⟩ ?_ ?_
    · exact ⟨Nat.zero_le _, .inl rfl, by rw [show ksTo (txt (ds.getD i dd).2) (txt p) 0 = [] from rfl, List.map_nil, List.append_nil]; exact ho.kept_from From.rfl_, hB⟩
    rintro ⟨k, A5, c5⟩ ρ3 w3 ⟨hk, hk2, ho, hB⟩
    have hkb := ksTo_le (t := txt (ds.getD i dd).2) (q := txt p) (k := k)
    refine cd_seq (cd_seq (cd_region ?_))
    refine mvi rfl ?_
    refine mvs rfl ?_
    refine mvi rfl ?_
    refine st_val (ro_indexAddrN SegRef_e22 rfl rfl (by omega)) ?_
    refine st_val (ro_fieldAddr SegRef_f65_1 rfl) ?_
    refine st_val (ro_load SegRef_g9 rfl (by exact cellF hB (hce 1 _ rfl))) ?_
    refine st_val (ro_lenS (by kernel_rfl) rfl) ?_
    refine mvg rfl ?_
    refine st_val (ro_lenS (by kernel_rfl) rfl) ?_
    refine st_val (ro_sub64 rfl rfl (by omega)) ?_
    refine st_val (ro_leq rfl rfl) ?_
    refine st_nil (nx_then ?_)
    refine cd_cond rfl (fun Q4 => ?_) (fun Q4 => ?_)
    · with_reducible replace Q4 := of_decide_eq_true Q4
      refine cd_skip (nx_then ?_)
      refine cd_cut (G := Option Addr × Nat) [27, 28, 29, 30, 31, 32, 33, 34, 35, 36, 37, 38, 39, 40, 41, 42, 43, 44, 45, 46, 47, 48, 49] (fun (A9, c9) => [(5, .slice A9 ((hits (ds.take i) p) ++ (ksTo (txt (ds.getD i dd).2) (txt p) (k + 1)).map fun k => ((ds.getD i dd).1, ((k : Nat) : Int))).length c9)]) (fun (A9, c9) w' => w'.ownsRow w.heap.size 63 2 (.slice A9 ((hits (ds.take i) p) ++ (ksTo (txt (ds.getD i dd).2) (txt p) (k + 1)).map fun k => ((ds.getD i dd).1, ((k : Nat) : Int))).length c9) ((hits (ds.take i) p) ++ (ksTo (txt (ds.getD i dd).2) (txt p) (k + 1)).map fun k => ((ds.getD i dd).1, ((k : Nat) : Int))).length (((hits (ds.take i) p) ++ (ksTo (txt (ds.getD i dd).2) (txt p) (k + 1)).map fun k => ((ds.getD i dd).1, ((k : Nat) : Int))).flatMap hV) ∧ From w w') ?_ ?_
      · refine cd_block (cd_seq (cd_region ?_))
        refine mvs rfl ?_
        refine mvi rfl ?_
        refine st_val (ro_indexAddrN SegRef_e22 rfl rfl (by omega)) ?_
        refine st_val (ro_fieldAddr SegRef_f65_1 rfl) ?_
        refine st_val (ro_load SegRef_g9 rfl (by exact cellF hB (hce 1 _ rfl))) ?_
        refine mvi rfl ?_
        refine mvi rfl ?_
        refine mvg rfl ?_
        refine st_val (ro_lenS (by kernel_rfl) rfl) ?_
        refine st_val (ro_addN rfl rfl (by omega)) ?_
        refine st_val (ro_cutS (l := k) (h := k + p.size) (by kernel_rfl) rfl (.inr ⟨_, _, _, rfl, rfl, rfl⟩) (.inr ⟨_, _, _, rfl, rfl, rfl⟩) (by omega) (by omega)) ?_
        refine mvg rfl ?_
        refine st_val (ro_eqlS rfl rfl) ?_
        refine st_nil (nx_then ?_)
        refine cd_cond rfl (fun Q5 => ?_) (fun Q5 => ?_)
        · with_reducible replace Q5 := be_t Q5
          have hpre : (txt p).isPrefixOf ((txt (ds.getD i dd).2).drop k) = true := by rw [← cut_pre]; exact beq_iff_eq.2 Q5
          have hks := ksTo_yes hpre
          refine cd_region ?_
          refine mvs rfl ?_
          refine mvs rfl ?_
          refine mvi rfl ?_
          refine st_val (ro_indexAddrN SegRef_e22 rfl rfl (by omega)) ?_
          refine st_val (ro_fieldAddr SegRef_f65_0 rfl) ?_
          refine st_val (ro_load SegRef_g9 rfl (by exact cellF hB (hce 0 _ rfl))) ?_
          refine mvi rfl ?_
          refine st_val (ro_build (l := [(0, .tmp 45), (1, .tmp 46)]) (SegRef_b63_0_1 _ _)) ?_
          refine st_litK2 SegRef_q32 rfl rfl rfl ?_
          intro b48 w6 E48 hb48 hk48
          refine st_appendB SegRef_q32 rfl (by decide) rfl (A := A5) (xs := ((hits (ds.take i) p) ++ (ksTo (txt (ds.getD i dd).2) (txt p) k).map fun k => ((ds.getD i dd).1, ((k : Nat) : Int))).flatMap hV) (news := hV ((ds.getD i dd).1, ((k : Nat) : Int))) (ho.kept_from (From.rfl_.next E48)) ((hB.next E48).size) rfl rfl (fun _ => ⟨b48, 0, rfl, hk48.whole⟩) (fun h => by cases h) (by simp [hV, Value.oneCell']) (by simp only [List.length_append, List.length_map]; omega) (by simp only [List.length_append, List.length_map]; omega) ?_
          intro A49 c49 w7 ho49 hg49
          have HF49 := ((hB.next E48)).grew hg49 (fun k hk => (own_at (ho.kept_from (From.rfl_.next E48)) k hk).1)
          refine ass rfl ?_
          refine st_nil (nx_block ?_)
          refine nx_cut ((A49, c49)) ⟨(by rw [hks]; simp only [List.length_append, List.length_map, List.length_cons, List.length_nil, Nat.add_assoc]; rfl), trivial⟩ (by (iterate 24 refine agr_cons rfl ?_); exact agr_rfl) ?_
          exact ⟨by rw [hks, List.map_append, ← List.append_assoc, List.flatMap_append, List.length_append]; exact ho49.kept_from From.rfl_, HF49⟩
        with_reducible replace Q5 := be_f Q5
        have hpre : (txt p).isPrefixOf ((txt (ds.getD i dd).2).drop k) = false := by rw [← cut_pre]; exact beq_eq_false_iff_ne.2 Q5
        have hks := ksTo_no hpre
        refine cd_skip (nx_block ?_)
        refine nx_cut ((A5, c5)) ⟨(by rw [hks]; rfl), trivial⟩ (by (iterate 13 refine agr_cons rfl ?_); exact agr_rfl) ?_
        exact ⟨by rw [hks]; exact ho.kept_from From.rfl_, hB⟩
      rintro ⟨A9, c9⟩ ρ8 w8 ⟨ho9, hB⟩
      refine cd_region ?_
      refine mvi rfl ?_
      refine st_val (ro_addN (b := 1) rfl rfl (by omega)) ?_
      refine asi rfl ?_
      refine st_nil ?_
      refine nx_cut ((k + 1, A9, c9)) ⟨(by first | rfl | (refine int_eq ?_; omega)), (by first | rfl | (refine int_eq ?_; omega)), trivial⟩ (by (iterate 76 refine agr_cons rfl ?_); exact agr_rfl) ⟨?_, ?_⟩
      · exact ⟨by omega, by omega, ho9.kept_from From.rfl_, hB⟩
      · show (ds.getD i dd).2.size + 1 - (k + 1) < (ds.getD i dd).2.size + 1 - k; omega
    with_reducible replace Q4 := of_decide_eq_false Q4
    have hnx : hits (ds.take (i + 1)) p = ((hits (ds.take i) p) ++ (ksTo (txt (ds.getD i dd).2) (txt p) k).map fun k => ((ds.getD i dd).1, ((k : Nat) : Int))) := by
      rw [List.take_succ_eq_append_getElem hil, hits_app, ← getD_get hil, hits, hits, List.append_nil, ks_to (txt_ne hp0) (k := k) (by rw [txt_len, txt_len]; omega) (by rw [txt_len]; omega)]
    refine cd_exit ?_
    refine ex_then (ex_then (ex_block (nx_block (nx_then (cd_region ?_)))))
    refine mvi rfl ?_
    refine st_val (ro_addN (b := 1) rfl rfl (by omega)) ?_
    refine asi rfl ?_
    refine st_nil ?_
    refine nx_cut ((i + 1, A5, c5)) ⟨rfl, (by rw [hnx]; rfl), trivial⟩ (by (iterate 102 refine agr_cons rfl ?_); exact agr_rfl) ⟨?_, ?_⟩
    · exact ⟨by omega, by rw [hnx]; exact ho.kept_from From.rfl_, hB⟩
    · show n - (i + 1) < n - i; omega
  with_reducible replace Q2 := of_decide_eq_false Q2
  refine cd_exit ?_
  refine ex_then (ex_then (ex_block (nx_then (cd_seq (cd_region ?_)))))
  refine mvs rfl ?_
  refine ass rfl ?_
  refine st_nil (nx_then (cd_ret ?_))
  refine res1 (v := .slice _ _ _) rfl rfl ?_
  obtain rfl : i = n := by omega
  rw [hn, List.take_length] at ho
  rw [hn, List.take_length]
  exact ⟨⟨A5, c5, rfl, ho⟩, hB⟩
end Go.Proofs.Ytllmocjfllbbfaa

namespace Go.Proofs.Ytllmocjfllbbfaa
open Go.RowKit
open Go.ChangeShapes Go.WideShapes Go.ChangeAt
open Go.Proofs.Ytllmocjfllbbfaa.SA
theorem SegHelp_q40 : litQ Try.prog 40 = some (3, 1, 8, (.int .i64 0)) := by kernel_rfl
theorem SegHelp_q22 : litQ Try.prog 22 = some (65, 2, 32, (.agg #[.string ⟨#[]⟩, .string ⟨#[]⟩])) := by kernel_rfl
theorem SegHelp_q32 : litQ Try.prog 32 = some (63, 2, 24, (.agg #[.string ⟨#[]⟩, .int .i64 0])) := by kernel_rfl
theorem SegHelp_s5 : (Try.prog.underlying 5).isSome = true := by kernel_rfl
theorem SegHelp_i3 : Try.prog.underlying 3 = some (.int .i64) := by kernel_rfl
theorem SegHelp_l22 : (elemQ Try.prog 22).isSome = true := by kernel_rfl
theorem SegHelp_e22 : elemQ Try.prog 22 = some (65, 2) := by kernel_rfl
theorem SegHelp_f65_1 : fieldQ Try.prog 65 1 = some 1 := by kernel_rfl
theorem SegHelp_g9 : aggQ Try.prog 9 = some false := by kernel_rfl
theorem SegHelp_f25_0 : fieldQ Try.prog 25 0 = some 0 := by kernel_rfl
theorem SegHelp_g22 : aggQ Try.prog 22 = some false := by kernel_rfl
theorem SegHelp_k27 : callable Try.prog 27 = true := by kernel_rfl
theorem SegHelp_f25_1 : fieldQ Try.prog 25 1 = some 1 := by kernel_rfl
theorem SegHelp_g23 : aggQ Try.prog 23 = some false := by kernel_rfl
theorem SegHelp_l23 : (elemQ Try.prog 23).isSome = true := by kernel_rfl
theorem SegHelp_f25_2 : fieldQ Try.prog 25 2 = some 2 := by kernel_rfl
theorem SegHelp_k28 : callable Try.prog 28 = true := by kernel_rfl
theorem SegHelp_b65_0cstring97_1cstring120120 : Try.prog.built 65 [(0, .string ⟨#[97]⟩), (1, .string ⟨#[120, 120]⟩)] = some #[.string ⟨#[97]⟩, .string ⟨#[120, 120]⟩] := by kernel_rfl
theorem SegHelp_k24 : callable Try.prog 24 = true := by kernel_rfl
theorem SegHelp_k13 : callable Try.prog 13 = true := by kernel_rfl
theorem SegHelp_k12 : callable Try.prog 12 = true := by kernel_rfl
theorem SegHelp_b63_0cstring97 : Try.prog.built 63 [(0, .string ⟨#[97]⟩)] = some #[.string ⟨#[97]⟩, .int .i64 0] := by kernel_rfl
theorem SegHelp_b63_0cstring97_1cinti641 : Try.prog.built 63 [(0, .string ⟨#[97]⟩), (1, .int .i64 1)] = some #[.string ⟨#[97]⟩, .int .i64 1] := by kernel_rfl
theorem SegHelp_k14 : callable Try.prog 14 = true := by kernel_rfl
theorem SegHelp_k26 : callable Try.prog 26 = true := by kernel_rfl
theorem SegHelp_k29 : callable Try.prog 29 = true := by kernel_rfl
theorem SegHelp_k30 : callable Try.prog 30 = true := by kernel_rfl
theorem SegHelp_p27 : Try.prog.underlying 27 = some (.pointer (Try.prog.pointee 27)) := by kernel_rfl
theorem SegHelp_f47_0 : fieldQ Try.prog 47 0 = some 0 := by kernel_rfl
theorem SegHelp_g44 : aggQ Try.prog 44 = some false := by kernel_rfl
theorem SegHelp_p44 : Try.prog.underlying 44 = some (.pointer (Try.prog.pointee 44)) := by kernel_rfl
theorem SegHelp_f54_0 : fieldQ Try.prog 54 0 = some 0 := by kernel_rfl
theorem SegHelp_g50 : aggQ Try.prog 50 = some false := by kernel_rfl
theorem SegHelp_p50 : Try.prog.underlying 50 = some (.pointer (Try.prog.pointee 50)) := by kernel_rfl
theorem txt_take {s : ByteArray} {k : Nat} (h : k < s.size) : (txt s).take (k + 1) = (txt s).take k ++ [(txt s).getD k 0] := by
  rw [List.take_succ_eq_append_getElem (by rw [txt_len]; exact h), List.getD_eq_getElem?_getD, List.getElem?_eq_getElem (by rw [txt_len]; exact h)]
  rfl
theorem txt_takeL {s : ByteArray} {k : Nat} (h : k ≤ s.size) : ((txt s).take k).length = k := by rw [List.length_take, txt_len]; omega
theorem txt_all {s : ByteArray} {k : Nat} (h : ¬ k < s.size) : (txt s).take k = txt s := List.take_of_length_le (by rw [txt_len]; omega)
structure AskS (w : World) (A B C : Option Addr) (ca : Nat) (ds : List Dc) (ps ns : List ByteArray) : Prop where
  row : RowK 2 dV w A ds
  sm : ∀ d ∈ ds, Small d.1 ∧ Small d.2
  len : ds.length * 32 ≤ 140737488351232
  nil : A = none → ca = 0
  rowP : RowOf Value.string w B ps
  smP : ∀ s ∈ ps, Small s
  lenP : ps.length * 16 ≤ 140737488351232
  rowN : RowOf Value.string w C ns
  smN : ∀ s ∈ ns, Small s
  lenN : ns.length * 16 ≤ 140737488351232
theorem AskS.from_ {w w' : World} {A B C : Option Addr} {ca : Nat} {ds : List Dc} {ps ns : List ByteArray} (h : AskS w A B C ca ds ps ns) (hF : From w w') : AskS w' A B C ca ds ps ns :=
  ⟨h.row.from_ hF, h.sm, h.len, h.nil, h.rowP.from_ hF, h.smP, h.lenP, h.rowN.from_ hF, h.smN, h.lenN⟩
theorem ask_of8 {w : World} {cs : Array Value} {x : (Ty.pr (Ty.sl docT) (.pr (.sl .str) (.pr (.sl .str) .unit))).den} (hs : cs.size = 3) (h : (Ty.pr (Ty.sl docT) (.pr (.sl .str) (.pr (.sl .str) .unit))).At w (fun j => cs[j]?) x) :
    ∃ (A B C : Option Addr) (ca cb cc : Nat) (ds : List Dc) (ps ns : List ByteArray), cs = #[.slice A ds.length ca, .slice B ps.length cb, .slice C ns.length cc] ∧ AskS w A B C ca ds ps ns ∧ ds.length ≤ ca := by
  obtain ⟨h1, h2, h3, _⟩ := h
  obtain ⟨A, ca, ds, a0, a1, a2, a3, a4, a5⟩ := at_docs h1
  obtain ⟨B, cb, ps, b0, b1, b2, b3⟩ := at_strS h2
  obtain ⟨C, cc, ns, c0, c1, c2, c3⟩ := at_strS h3
  have e0 : cs[0]? = some _ := a0
  have e1 : cs[1]? = some _ := b0
  have e2 : cs[2]? = some _ := c0
  refine ⟨A, B, C, ca, cb, cc, ds, ps, ns, ?_, ⟨a1, a2, a3, a5, b1, b2, b3, c1, c2, c3⟩, a4⟩
  obtain ⟨l⟩ := cs
  match l, hs with
  | [a, b, c], _ =>
    simp only [List.getElem?_toArray, List.getElem?_cons_zero, List.getElem?_cons_succ, Option.some.injEq] at e0 e1 e2
    rw [e0, e1, e2]
set_option maxHeartbeats 400000 in
theorem num_any (e : Int) (w : World) :
    Rt Try.prog 13 [.int .i64 e] w (fun v w' => v = .int .i64 e ∧ w = w') := by
  refine enter (n := 4) Try.func13 rfl rfl rfl ?_
  refine cd_seq (cd_region ?_)
  refine asi rfl ?_
  refine st_nil (nx_then (cd_seq (cd_region ?_)))
  refine mvi rfl ?_
  refine asi rfl ?_
  refine st_nil (nx_then (cd_ret ?_))
  refine res1 (v := .int _ _) rfl rfl ?_
  exact ⟨rfl, rfl⟩
set_option maxHeartbeats 400000 in
theorem refPattern_rt (p : ByteArray) (w : World) (hp : p.size ≤ 1000000) :
    Rt Try.prog 22 [.string p] w (fun v w' => (∃ A' c', v = .slice A' p.size c' ∧ RowOf iV w' A' (cI (txt p))) ∧ From w w') := by
  refine enter (n := 20) Try.func22 rfl rfl rfl ?_
  refine cd_seq (cd_region ?_)
  refine ass rfl ?_
  refine st_nil (nx_then (cd_seq (cd_region ?_)))
  refine ass rfl ?_
  refine st_nil (nx_then (cd_seq (cd_seq (cd_region ?_))))
  refine asi rfl ?_
  refine st_nil (nx_then (cd_block ?_))
  refine cd_loop (G := Nat × Option Addr × Nat) [5, 6, 7, 8, 9, 10, 11, 12, 13, 14, 15, 16, 17, 18] (fun (k, A3, c3) => [(4, .int .i64 (k : Nat)), (3, .slice A3 k c3)]) (fun (k, A3, c3) w' => k ≤ p.size ∧ w'.ownsRow w.heap.size 3 1 (.slice A3 k c3) k ((cI ((txt p).take k)).map iV) ∧ From w w') (fun (k, _, _) => p.size - k) ((0, none, 0)) ⟨rfl, rfl, trivial⟩ ?_ ?_
  · exact ⟨Nat.zero_le _, World.ownsRow_nil _ _ _ _, From.rfl_⟩
  rintro ⟨k, A3, c3⟩ ρ1 w1 ⟨hk, ho, hB⟩
  refine cd_seq (cd_seq (cd_region ?_))
  refine mvi rfl ?_
  refine mvg rfl ?_
  refine st_val (ro_lenS (by kernel_rfl) rfl) ?_
  refine st_val (ro_lss rfl rfl) ?_
  refine st_nil (nx_then ?_)
  refine cd_cond rfl (fun Q2 => ?_) (fun Q2 => ?_)
  · with_reducible replace Q2 := of_decide_eq_true Q2
    obtain ⟨u, hu, htu, _⟩ := str_at (s := p) (i := k) (by omega)
    have hub := u.toNat_lt
    refine cd_skip (nx_then (cd_seq (cd_block (cd_region ?_))))
    refine mvs rfl ?_
    refine mvg rfl ?_
    refine mvi rfl ?_
    refine st_val (ro_indexS (by kernel_rfl) rfl rfl (by omega) hu) ?_
    refine st_val (ro_convI SegHelp_s5 SegHelp_i3 rfl (by omega)) ?_
    refine st_val (ro_addN (b := 1) rfl rfl (by omega)) ?_
    refine st_spell (t := 16) (v := .int _ _) (v' := .int .i64 (((txt p).getD k 0 : Nat) : Int)) rfl (by rw [htu]) ?_
    refine st_lit1 (v := .int _ _) SegHelp_q40 rfl rfl rfl ?_
    intro b17 w3 E17 hb17 hk17
    refine st_appendB SegHelp_q40 rfl (by decide) rfl (A := A3) (xs := (cI ((txt p).take k)).map iV) (news := [iV (((txt p).getD k 0 : Nat) : Int)]) (ho.kept_from (From.rfl_.next E17)) ((hB.next E17).size) rfl rfl (fun _ => ⟨b17, 0, rfl, hk17.whole⟩) (fun h => by cases h) (by simp [Value.oneCell']) (by omega) (by omega) ?_
    intro A18 c18 w4 ho18 hg18
    have HF18 := ((hB.next E17)).grew hg18 (fun k hk => (own_at (ho.kept_from (From.rfl_.next E17)) k hk).1)
    refine ass rfl ?_
    refine st_nil (nx_block (nx_then (cd_region ?_)))
    refine mvi rfl ?_
    refine st_val (ro_addN (b := 1) rfl rfl (by omega)) ?_
    refine asi rfl ?_
    refine st_nil ?_
    refine nx_cut ((k + 1, A18, c18)) ⟨rfl, rfl, trivial⟩ (by (iterate 33 refine agr_cons rfl ?_); exact agr_rfl) ⟨?_, ?_⟩
    · exact ⟨by omega, by rw [txt_take (by omega), cI_app, List.map_append]; exact ho18, HF18⟩
    · show p.size - (k + 1) < p.size - k; omega
  with_reducible replace Q2 := of_decide_eq_false Q2
  refine cd_exit ?_
  refine ex_then (ex_then (ex_block (nx_then (cd_seq (cd_region ?_)))))
  refine mvs rfl ?_
  refine ass rfl ?_
  refine st_nil (nx_then (cd_ret ?_))
  refine res1 (v := .slice _ _ _) rfl rfl ?_
  obtain rfl : k = p.size := by omega
  rw [txt_all (by omega)] at ho
  exact ⟨⟨A3, c3, rfl, (RowOf.own ho).2⟩, hB⟩
set_option maxHeartbeats 2000000 in
theorem refSymbols_rt (A : Option Addr) (c n : Nat) (ds : List Dc) (w : World) (hr : RowK 2 dV w A ds) (hn : n = ds.length) (hl : n ≤ 100000000) (hz : dsz ds ≤ 100000000) :
    Rt Try.prog 16 [.slice A n c] w (fun v w' => (∃ A' c', v = .slice A' (syms ds).length c' ∧ RowOf iV w' A' (cI (syms ds))) ∧ From w w') := by
  refine enter (n := 38) Try.func16 rfl rfl rfl ?_
  refine cd_seq (cd_region ?_)
  refine ass rfl ?_
  refine st_nil (nx_then (cd_seq (cd_region ?_)))
  refine ass rfl ?_
  refine st_nil (nx_then (cd_seq (cd_seq (cd_region ?_))))
  refine asi rfl ?_
  refine st_nil (nx_then (cd_block ?_))
  refine cd_loop (G := Nat × Option Addr × Nat) [5, 6, 7, 8, 9, 10, 11, 12, 13, 14, 15, 16, 17, 18, 19, 20, 21, 22, 23, 24, 25, 26, 27, 28, 29, 30, 31, 32, 33, 34, 35, 36] (fun (i, A3, c3) => [(4, .int .i64 (i : Nat)), (3, .slice A3 (syms (ds.take i)).length c3)]) (fun (i, A3, c3) w' => i ≤ n ∧ w'.ownsRow w.heap.size 3 1 (.slice A3 (syms (ds.take i)).length c3) (syms (ds.take i)).length ((cI (syms (ds.take i))).map iV) ∧ From w w') (fun (i, _, _) => n - i) ((0, none, 0)) ⟨rfl, rfl, trivial⟩ ?_ ?_
  · exact ⟨Nat.zero_le _, World.ownsRow_nil _ _ _ _, From.rfl_⟩
  rintro ⟨i, A3, c3⟩ ρ1 w1 ⟨hi, ho, hB⟩
  refine cd_seq (cd_seq (cd_region ?_))
  refine mvi rfl ?_
  refine mvs rfl ?_
  refine st_val (ro_len SegHelp_l22 rfl) ?_
  refine st_val (ro_lss rfl rfl) ?_
  refine st_nil (nx_then ?_)
  refine cd_cond rfl (fun Q2 => ?_) (fun Q2 => ?_)
  · with_reducible replace Q2 := of_decide_eq_true Q2
    obtain ⟨bd, od, rfl, hcd⟩ := hr (by omega)
    have hil : i < ds.length := by omega
    have hce := hcd i hil
    rw [← getD_get hil] at hce
    have hdm := dsz_mem (show ds.getD i dd ∈ ds by rw [getD_get hil]; exact List.getElem_mem hil)
    have hnz := dsz_le (ds := ds) i
    have hnt := List.length_take_le i ds
    have hsb := syms_len (ds.take i)
    refine cd_skip (nx_then (cd_seq (cd_block (cd_seq (cd_seq (cd_region ?_))))))
    refine asi rfl ?_
    refine st_nil (nx_then (cd_block ?_))
    refine cd_loop (G := Nat × Option Addr × Nat) [12, 13, 14, 15, 16, 17, 18, 19, 20, 21, 22, 23, 24, 25, 26, 27, 28, 29, 30, 31, 32, 33] (fun (k, A3, c3) => [(5, .int .i64 (k : Nat)), (3, .slice A3 ((syms (ds.take i)) ++ (txt (ds.getD i dd).2).take k).length c3)]) (fun (k, A3, c3) w' => k ≤ (ds.getD i dd).2.size ∧ w'.ownsRow w.heap.size 3 1 (.slice A3 ((syms (ds.take i)) ++ (txt (ds.getD i dd).2).take k).length c3) ((syms (ds.take i)) ++ (txt (ds.getD i dd).2).take k).length ((cI ((syms (ds.take i)) ++ (txt (ds.getD i dd).2).take k)).map iV) ∧ From w w') (fun (k, _, _) => (ds.getD i dd).2.size - k) ((0, A3, c3)) ⟨rfl, (by rw [List.take_zero, List.append_nil]; rfl), trivial⟩ ?_ ?_
    · exact ⟨Nat.zero_le _, by rw [List.take_zero, List.append_nil]; exact ho, hB⟩
    rintro ⟨k, A3, c3⟩ ρ3 w3 ⟨hk, ho, hB⟩
    have hkl : ((syms (ds.take i)) ++ (txt (ds.getD i dd).2).take k).length = (syms (ds.take i)).length + k := by rw [List.length_append, txt_takeL hk]
    refine cd_seq (cd_seq (cd_region ?_))
    refine mvi rfl ?_
    refine mvs rfl ?_
    refine mvi rfl ?_
    refine st_val (ro_indexAddrN SegHelp_e22 rfl rfl (by omega)) ?_
    refine st_val (ro_fieldAddr SegHelp_f65_1 rfl) ?_
    refine st_val (ro_load SegHelp_g9 rfl (by exact cellF hB (hce 1 _ rfl))) ?_
    refine st_val (ro_lenS (by kernel_rfl) rfl) ?_
    refine st_val (ro_lss rfl rfl) ?_
    refine st_nil (nx_then ?_)
    refine cd_cond rfl (fun Q4 => ?_) (fun Q4 => ?_)
    · with_reducible replace Q4 := of_decide_eq_true Q4
      obtain ⟨u, hu, htu, _⟩ := str_at (s := (ds.getD i dd).2) (i := k) (by omega)
      have hub := u.toNat_lt
      have hk1 : (((syms (ds.take i)) ++ (txt (ds.getD i dd).2).take (k + 1))).length = ((syms (ds.take i)) ++ (txt (ds.getD i dd).2).take k).length + 1 := by rw [txt_take (by omega), ← List.append_assoc, List.length_append]; rfl
      refine cd_skip (nx_then (cd_seq (cd_block (cd_region ?_))))
      refine mvs rfl ?_
      refine mvs rfl ?_
      refine mvi rfl ?_
      refine st_val (ro_indexAddrN SegHelp_e22 rfl rfl (by omega)) ?_
      refine st_val (ro_fieldAddr SegHelp_f65_1 rfl) ?_
      refine st_val (ro_load SegHelp_g9 rfl (by exact cellF hB (hce 1 _ rfl))) ?_
      refine mvi rfl ?_
      refine st_val (ro_indexS (by kernel_rfl) rfl rfl (by omega) hu) ?_
      refine st_val (ro_convI SegHelp_s5 SegHelp_i3 rfl (by omega)) ?_
      refine st_val (ro_addN (b := 1) rfl rfl (by omega)) ?_
      refine st_spell (t := 31) (v := .int _ _) (v' := .int .i64 (((txt (ds.getD i dd).2).getD k 0 : Nat) : Int)) rfl (by rw [htu]) ?_
      refine st_lit1 (v := .int _ _) SegHelp_q40 rfl rfl rfl ?_
      intro b32 w5 E32 hb32 hk32
      refine st_appendB SegHelp_q40 rfl (by decide) rfl (A := A3) (xs := (cI ((syms (ds.take i)) ++ (txt (ds.getD i dd).2).take k)).map iV) (news := [iV (((txt (ds.getD i dd).2).getD k 0 : Nat) : Int)]) (ho.kept_from (From.rfl_.next E32)) ((hB.next E32).size) rfl rfl (fun _ => ⟨b32, 0, rfl, hk32.whole⟩) (fun h => by cases h) (by simp [Value.oneCell']) (by omega) (by omega) ?_
      intro A33 c33 w6 ho33 hg33
      have HF33 := ((hB.next E32)).grew hg33 (fun k hk => (own_at (ho.kept_from (From.rfl_.next E32)) k hk).1)
      refine ass rfl ?_
      refine st_nil (nx_block (nx_then (cd_region ?_)))
      refine mvi rfl ?_
      refine st_val (ro_addN (b := 1) rfl rfl (by omega)) ?_
      refine asi rfl ?_
      refine st_nil ?_
      refine nx_cut ((k + 1, A33, c33)) ⟨rfl, (by rw [hk1, hkl]; rfl), trivial⟩ (by (iterate 49 refine agr_cons rfl ?_); exact agr_rfl) ⟨?_, ?_⟩
      · exact ⟨by omega, by rw [hk1, txt_take (by omega), ← List.append_assoc, cI_app, List.map_append]; exact ho33, HF33⟩
      · show (ds.getD i dd).2.size - (k + 1) < (ds.getD i dd).2.size - k; omega
    with_reducible replace Q4 := of_decide_eq_false Q4
    have hka := txt_all (s := (ds.getD i dd).2) (k := k) (by omega)
    have hsl : (syms (ds.take (i + 1))).length = ((syms (ds.take i)) ++ (txt (ds.getD i dd).2).take k).length + 1 := by rw [syms_take hil, hka, List.length_append]; rfl
    refine cd_exit ?_
    refine ex_then (ex_then (ex_block (nx_then (cd_region ?_))))
    refine mvs rfl ?_
    refine st_lit1 (v := .int _ _) SegHelp_q40 rfl rfl rfl ?_
    intro b35 w7 E35 hb35 hk35
    refine st_appendB SegHelp_q40 rfl (by decide) rfl (A := A3) (xs := (cI ((syms (ds.take i)) ++ (txt (ds.getD i dd).2).take k)).map iV) (news := [iV 0]) (ho.kept_from (From.rfl_.next E35)) ((hB.next E35).size) rfl rfl (fun _ => ⟨b35, 0, rfl, hk35.whole⟩) (fun h => by cases h) (by simp [Value.oneCell']) (by omega) (by omega) ?_
    intro A36 c36 w8 ho36 hg36
    have HF36 := ((hB.next E35)).grew hg36 (fun k hk => (own_at (ho.kept_from (From.rfl_.next E35)) k hk).1)
    refine ass rfl ?_
    refine st_nil (nx_block (nx_then (cd_region ?_)))
    refine mvi rfl ?_
    refine st_val (ro_addN (b := 1) rfl rfl (by omega)) ?_
    refine asi rfl ?_
    refine st_nil ?_
    refine nx_cut ((i + 1, A36, c36)) ⟨rfl, (by rw [hsl]; rfl), trivial⟩ (by (iterate 78 refine agr_cons rfl ?_); exact agr_rfl) ⟨?_, ?_⟩
    · exact ⟨by omega, by have h9 := ho36; rw [hka] at h9; rw [hsl, hka, syms_take hil, cI_app, List.map_append]; exact h9, HF36⟩
    · show n - (i + 1) < n - i; omega
  with_reducible replace Q2 := of_decide_eq_false Q2
  refine cd_exit ?_
  refine ex_then (ex_then (ex_block (nx_then (cd_seq (cd_region ?_)))))
  refine mvs rfl ?_
  refine ass rfl ?_
  refine st_nil (nx_then (cd_ret ?_))
  refine res1 (v := .slice _ _ _) rfl rfl ?_
  obtain rfl : i = n := by omega
  rw [hn, List.take_length] at ho
  rw [hn, List.take_length]
  exact ⟨⟨A3, c3, rfl, (RowOf.own ho).2⟩, hB⟩
set_option maxHeartbeats 4000000 in
theorem heavy_rt (A B C : Option Addr) (ca cb cc : Nat) (ds : List Dc) (ps ns : List ByteArray) (w : World) (ha : AskS w A B C ca ds ps ns) :
    Rt Try.prog 7 [.agg #[.slice A ds.length ca, .slice B ps.length cb, .slice C ns.length cc]] w (fun v w' => (∃ h : Bool, v = .bool h ∧ (h = false → ds.length ≤ 60000 ∧ ps.length ≤ 30 ∧ ns.length ≤ 30)) ∧ From w w') := by
  have hl1 := ha.len
  have hl2 := ha.lenP
  have hl3 := ha.lenN
  refine enter (n := 43) Try.func7 rfl rfl rfl ?_
  refine cd_seq (cd_region ?_)
  refine st_box (v := .agg _) rfl ?_
  intro b1 w1 E1 hb1 hk1
  refine asb rfl ?_
  refine st_nil (nx_then (cd_seq (cd_region ?_)))
  refine st_val (ro_fieldAddr SegHelp_f25_0 rfl) ?_
  refine st_val (ro_load SegHelp_g22 rfl (by exact (hk1.from_ From.rfl_).rd 0 rfl)) ?_
  refine st_call SegHelp_k27 (docW_rt A ca ds.length ds _ (ha.row.from_ (From.rfl_.next E1)) rfl (by omega) ha.sm) ?_
  rintro v5 w2 ⟨⟨m5, rfl, hm5⟩, E5⟩
  refine st_val (ro_gtr rfl rfl) ?_
  refine mvb rfl ?_
  refine st_split (t := 7) rfl (fun Q3 => ?_) (fun Q3 => ?_)
  · with_reducible replace Q3 := of_decide_eq_true Q3
    refine st_unguard rfl ?_
    refine st_val (ro_fieldAddr SegHelp_f25_0 rfl) ?_
    refine st_unguard rfl ?_
    refine st_val (ro_load SegHelp_g22 rfl (by exact (hk1.from_ (From.rfl_.next E5)).rd 0 rfl)) ?_
    refine st_unguard rfl ?_
    refine st_call SegHelp_k27 (docW_rt A ca ds.length ds _ (ha.row.from_ ((From.rfl_.next E1).next E5)) rfl (by omega) ha.sm) ?_
    rintro v10 w4 ⟨⟨m10, rfl, hm10⟩, E10⟩
    refine st_unguard rfl ?_
    refine st_val (ro_lss rfl rfl) ?_
    refine st_val (ro_pickT (v := .bool _) rfl rfl) ?_
    refine mvb rfl ?_
    refine st_split (t := 13) rfl (fun Q5 => ?_) (fun Q5 => ?_)
    · with_reducible replace Q5 := of_decide_eq_true Q5
      refine st_gno rfl rfl ?_
      refine st_gno rfl rfl ?_
      refine st_gno rfl rfl ?_
      refine st_gno rfl rfl ?_
      refine st_val (ro_pickT (v := .bool _) rfl rfl) ?_
      refine mvb rfl ?_
      refine st_gno rfl rfl ?_
      refine st_gno rfl rfl ?_
      refine st_gno rfl rfl ?_
      refine st_gno rfl rfl ?_
      refine st_val (ro_pickT (v := .bool _) rfl rfl) ?_
      refine mvb rfl ?_
      refine st_gno rfl rfl ?_
      refine st_gno rfl rfl ?_
      refine st_gno rfl rfl ?_
      refine st_gno rfl rfl ?_
      refine st_val (ro_pickT (v := .bool _) rfl rfl) ?_
      refine mvb rfl ?_
      refine st_gno rfl rfl ?_
      refine st_gno rfl rfl ?_
      refine st_gno rfl rfl ?_
      refine st_gno rfl rfl ?_
      refine st_val (ro_pickT (v := .bool _) rfl rfl) ?_
      refine mvb rfl ?_
      refine st_gno rfl rfl ?_
      refine st_gno rfl rfl ?_
      refine st_gno rfl rfl ?_
      refine st_gno rfl rfl ?_
      refine st_val (ro_pickT (v := .bool _) rfl rfl) ?_
      refine asb rfl ?_
      refine st_nil (nx_then (cd_ret ?_))
      refine res1 (v := .bool _) rfl rfl ?_
      refine ⟨⟨_, rfl, fun h => ?_⟩, (((From.rfl_.next E1).next E5).next E10)⟩
      first
        | (cases h; done)
        | omega
        | (have hq := of_decide_eq_false h; omega)
    with_reducible replace Q5 := of_decide_eq_false Q5
    refine st_unguard rfl ?_
    refine st_val (ro_fieldAddr SegHelp_f25_0 rfl) ?_
    refine st_unguard rfl ?_
    refine st_val (ro_load SegHelp_g22 rfl (by exact (hk1.from_ ((From.rfl_.next E5).next E10)).rd 0 rfl)) ?_
    refine st_unguard rfl ?_
    refine st_call SegHelp_k27 (docW_rt A ca ds.length ds _ (ha.row.from_ (((From.rfl_.next E1).next E5).next E10)) rfl (by omega) ha.sm) ?_
    rintro v16 w6 ⟨⟨m16, rfl, hm16⟩, E16⟩
    refine st_unguard rfl ?_
    refine st_val (ro_gtr rfl rfl) ?_
    refine st_val (ro_pickF (v := .bool _) rfl rfl) ?_
    refine mvb rfl ?_
    refine st_split (t := 19) rfl (fun Q7 => ?_) (fun Q7 => ?_)
    · with_reducible replace Q7 := of_decide_eq_true Q7
      refine st_gno rfl rfl ?_
      refine st_gno rfl rfl ?_
      refine st_gno rfl rfl ?_
      refine st_gno rfl rfl ?_
      refine st_val (ro_pickT (v := .bool _) rfl rfl) ?_
      refine mvb rfl ?_
      refine st_gno rfl rfl ?_
      refine st_gno rfl rfl ?_
      refine st_gno rfl rfl ?_
      refine st_gno rfl rfl ?_
      refine st_val (ro_pickT (v := .bool _) rfl rfl) ?_
      refine mvb rfl ?_
      refine st_gno rfl rfl ?_
      refine st_gno rfl rfl ?_
      refine st_gno rfl rfl ?_
      refine st_gno rfl rfl ?_
      refine st_val (ro_pickT (v := .bool _) rfl rfl) ?_
      refine mvb rfl ?_
      refine st_gno rfl rfl ?_
      refine st_gno rfl rfl ?_
      refine st_gno rfl rfl ?_
      refine st_gno rfl rfl ?_
      refine st_val (ro_pickT (v := .bool _) rfl rfl) ?_
      refine asb rfl ?_
      refine st_nil (nx_then (cd_ret ?_))
      refine res1 (v := .bool _) rfl rfl ?_
      refine ⟨⟨_, rfl, fun h => ?_⟩, ((((From.rfl_.next E1).next E5).next E10).next E16)⟩
      first
        | (cases h; done)
        | omega
        | (have hq := of_decide_eq_false h; omega)
    with_reducible replace Q7 := of_decide_eq_false Q7
    refine st_unguard rfl ?_
    refine st_val (ro_fieldAddr SegHelp_f25_1 rfl) ?_
    refine st_unguard rfl ?_
    refine st_val (ro_load SegHelp_g23 rfl (by exact (hk1.from_ (((From.rfl_.next E5).next E10).next E16)).rd 1 rfl)) ?_
    refine st_unguard rfl ?_
    refine st_val (ro_len SegHelp_l23 rfl) ?_
    refine st_unguard rfl ?_
    refine st_val (ro_gtr rfl rfl) ?_
    refine st_val (ro_pickF (v := .bool _) rfl rfl) ?_
    refine mvb rfl ?_
    refine st_split (t := 25) rfl (fun Q8 => ?_) (fun Q8 => ?_)
    · with_reducible replace Q8 := of_decide_eq_true Q8
      refine st_gno rfl rfl ?_
      refine st_gno rfl rfl ?_
      refine st_gno rfl rfl ?_
      refine st_gno rfl rfl ?_
      refine st_val (ro_pickT (v := .bool _) rfl rfl) ?_
      refine mvb rfl ?_
      refine st_gno rfl rfl ?_
      refine st_gno rfl rfl ?_
      refine st_gno rfl rfl ?_
      refine st_gno rfl rfl ?_
      refine st_val (ro_pickT (v := .bool _) rfl rfl) ?_
      refine mvb rfl ?_
      refine st_gno rfl rfl ?_
      refine st_gno rfl rfl ?_
      refine st_gno rfl rfl ?_
      refine st_gno rfl rfl ?_
      refine st_val (ro_pickT (v := .bool _) rfl rfl) ?_
      refine asb rfl ?_
      refine st_nil (nx_then (cd_ret ?_))
      refine res1 (v := .bool _) rfl rfl ?_
      refine ⟨⟨_, rfl, fun h => ?_⟩, ((((From.rfl_.next E1).next E5).next E10).next E16)⟩
      first
        | (cases h; done)
        | omega
        | (have hq := of_decide_eq_false h; omega)
    with_reducible replace Q8 := of_decide_eq_false Q8
    refine st_unguard rfl ?_
    refine st_val (ro_fieldAddr SegHelp_f25_2 rfl) ?_
    refine st_unguard rfl ?_
    refine st_val (ro_load SegHelp_g23 rfl (by exact (hk1.from_ (((From.rfl_.next E5).next E10).next E16)).rd 2 rfl)) ?_
    refine st_unguard rfl ?_
    refine st_val (ro_len SegHelp_l23 rfl) ?_
    refine st_unguard rfl ?_
    refine st_val (ro_gtr rfl rfl) ?_
    refine st_val (ro_pickF (v := .bool _) rfl rfl) ?_
    refine mvb rfl ?_
    refine st_split (t := 31) rfl (fun Q9 => ?_) (fun Q9 => ?_)
    · with_reducible replace Q9 := of_decide_eq_true Q9
      refine st_gno rfl rfl ?_
      refine st_gno rfl rfl ?_
      refine st_gno rfl rfl ?_
      refine st_gno rfl rfl ?_
      refine st_val (ro_pickT (v := .bool _) rfl rfl) ?_
      refine mvb rfl ?_
      refine st_gno rfl rfl ?_
      refine st_gno rfl rfl ?_
      refine st_gno rfl rfl ?_
      refine st_gno rfl rfl ?_
      refine st_val (ro_pickT (v := .bool _) rfl rfl) ?_
      refine asb rfl ?_
      refine st_nil (nx_then (cd_ret ?_))
      refine res1 (v := .bool _) rfl rfl ?_
      refine ⟨⟨_, rfl, fun h => ?_⟩, ((((From.rfl_.next E1).next E5).next E10).next E16)⟩
      first
        | (cases h; done)
        | omega
        | (have hq := of_decide_eq_false h; omega)
    with_reducible replace Q9 := of_decide_eq_false Q9
    refine st_unguard rfl ?_
    refine st_val (ro_fieldAddr SegHelp_f25_1 rfl) ?_
    refine st_unguard rfl ?_
    refine st_val (ro_load SegHelp_g23 rfl (by exact (hk1.from_ (((From.rfl_.next E5).next E10).next E16)).rd 1 rfl)) ?_
    refine st_unguard rfl ?_
    refine st_call SegHelp_k28 (textW_rt B cb ps.length ps _ (ha.rowP.from_ ((((From.rfl_.next E1).next E5).next E10).next E16)) rfl (by omega) ha.smP) ?_
    rintro v34 w10 ⟨⟨m34, rfl, hm34⟩, E34⟩
    refine st_unguard rfl ?_
    refine st_val (ro_gtr rfl rfl) ?_
    refine st_val (ro_pickF (v := .bool _) rfl rfl) ?_
    refine mvb rfl ?_
    refine st_split (t := 37) rfl (fun Q11 => ?_) (fun Q11 => ?_)
    · with_reducible replace Q11 := of_decide_eq_true Q11
      refine st_gno rfl rfl ?_
      refine st_gno rfl rfl ?_
      refine st_gno rfl rfl ?_
      refine st_gno rfl rfl ?_
      refine st_val (ro_pickT (v := .bool _) rfl rfl) ?_
      refine asb rfl ?_
      refine st_nil (nx_then (cd_ret ?_))
      refine res1 (v := .bool _) rfl rfl ?_
      refine ⟨⟨_, rfl, fun h => ?_⟩, (((((From.rfl_.next E1).next E5).next E10).next E16).next E34)⟩
      first
        | (cases h; done)
        | omega
        | (have hq := of_decide_eq_false h; omega)
    with_reducible replace Q11 := of_decide_eq_false Q11
    refine st_unguard rfl ?_
    refine st_val (ro_fieldAddr SegHelp_f25_2 rfl) ?_
    refine st_unguard rfl ?_
    refine st_val (ro_load SegHelp_g23 rfl (by exact (hk1.from_ ((((From.rfl_.next E5).next E10).next E16).next E34)).rd 2 rfl)) ?_
    refine st_unguard rfl ?_
    refine st_call SegHelp_k28 (textW_rt C cc ns.length ns _ (ha.rowN.from_ (((((From.rfl_.next E1).next E5).next E10).next E16).next E34)) rfl (by omega) ha.smN) ?_
    rintro v40 w12 ⟨⟨m40, rfl, hm40⟩, E40⟩
    refine st_unguard rfl ?_
    refine st_val (ro_gtr rfl rfl) ?_
    refine st_val (ro_pickF (v := .bool _) rfl rfl) ?_
    refine asb rfl ?_
    refine st_nil (nx_then (cd_ret ?_))
    refine res1 (v := .bool _) rfl rfl ?_
    refine ⟨⟨_, rfl, fun h => ?_⟩, ((((((From.rfl_.next E1).next E5).next E10).next E16).next E34).next E40)⟩
    first
      | (cases h; done)
      | omega
      | (have hq := of_decide_eq_false h; omega)
  with_reducible replace Q3 := of_decide_eq_false Q3
  refine st_gno rfl rfl ?_
  refine st_gno rfl rfl ?_
  refine st_gno rfl rfl ?_
  refine st_gno rfl rfl ?_
  refine st_val (ro_pickF (v := .bool _) rfl rfl) ?_
  refine mvb rfl ?_
  refine st_unguard rfl ?_
  refine st_val (ro_fieldAddr SegHelp_f25_0 rfl) ?_
  refine st_unguard rfl ?_
  refine st_val (ro_load SegHelp_g22 rfl (by exact (hk1.from_ (From.rfl_.next E5)).rd 0 rfl)) ?_
  refine st_unguard rfl ?_
  refine st_call SegHelp_k27 (docW_rt A ca ds.length ds _ (ha.row.from_ ((From.rfl_.next E1).next E5)) rfl (by omega) ha.sm) ?_
  rintro v16 w13 ⟨⟨m16, rfl, hm16⟩, E16⟩
  refine st_unguard rfl ?_
  refine st_val (ro_gtr rfl rfl) ?_
  refine st_val (ro_pickF (v := .bool _) rfl rfl) ?_
  refine mvb rfl ?_
  refine st_split (t := 19) rfl (fun Q14 => ?_) (fun Q14 => ?_)
  · with_reducible replace Q14 := of_decide_eq_true Q14
    refine st_gno rfl rfl ?_
    refine st_gno rfl rfl ?_
    refine st_gno rfl rfl ?_
    refine st_gno rfl rfl ?_
    refine st_val (ro_pickT (v := .bool _) rfl rfl) ?_
    refine mvb rfl ?_
    refine st_gno rfl rfl ?_
    refine st_gno rfl rfl ?_
    refine st_gno rfl rfl ?_
    refine st_gno rfl rfl ?_
    refine st_val (ro_pickT (v := .bool _) rfl rfl) ?_
    refine mvb rfl ?_
    refine st_gno rfl rfl ?_
    refine st_gno rfl rfl ?_
    refine st_gno rfl rfl ?_
    refine st_gno rfl rfl ?_
    refine st_val (ro_pickT (v := .bool _) rfl rfl) ?_
    refine mvb rfl ?_
    refine st_gno rfl rfl ?_
    refine st_gno rfl rfl ?_
    refine st_gno rfl rfl ?_
    refine st_gno rfl rfl ?_
    refine st_val (ro_pickT (v := .bool _) rfl rfl) ?_
    refine asb rfl ?_
    refine st_nil (nx_then (cd_ret ?_))
    refine res1 (v := .bool _) rfl rfl ?_
    refine ⟨⟨_, rfl, fun h => ?_⟩, (((From.rfl_.next E1).next E5).next E16)⟩
    first
      | (cases h; done)
      | omega
      | (have hq := of_decide_eq_false h; omega)
  with_reducible replace Q14 := of_decide_eq_false Q14
  refine st_unguard rfl ?_
  refine st_val (ro_fieldAddr SegHelp_f25_1 rfl) ?_
  refine st_unguard rfl ?_
  refine st_val (ro_load SegHelp_g23 rfl (by exact (hk1.from_ ((From.rfl_.next E5).next E16)).rd 1 rfl)) ?_
  refine st_unguard rfl ?_
  refine st_val (ro_len SegHelp_l23 rfl) ?_
  refine st_unguard rfl ?_
  refine st_val (ro_gtr rfl rfl) ?_
  refine st_val (ro_pickF (v := .bool _) rfl rfl) ?_
  refine mvb rfl ?_
  refine st_split (t := 25) rfl (fun Q15 => ?_) (fun Q15 => ?_)
  · with_reducible replace Q15 := of_decide_eq_true Q15
    refine st_gno rfl rfl ?_
    refine st_gno rfl rfl ?_
    refine st_gno rfl rfl ?_
    refine st_gno rfl rfl ?_
    refine st_val (ro_pickT (v := .bool _) rfl rfl) ?_
    refine mvb rfl ?_
    refine st_gno rfl rfl ?_
    refine st_gno rfl rfl ?_
    refine st_gno rfl rfl ?_
    refine st_gno rfl rfl ?_
    refine st_val (ro_pickT (v := .bool _) rfl rfl) ?_
    refine mvb rfl ?_
    refine st_gno rfl rfl ?_
    refine st_gno rfl rfl ?_
    refine st_gno rfl rfl ?_
    refine st_gno rfl rfl ?_
    refine st_val (ro_pickT (v := .bool _) rfl rfl) ?_
    refine asb rfl ?_
    refine st_nil (nx_then (cd_ret ?_))
    refine res1 (v := .bool _) rfl rfl ?_
    refine ⟨⟨_, rfl, fun h => ?_⟩, (((From.rfl_.next E1).next E5).next E16)⟩
    first
      | (cases h; done)
      | omega
      | (have hq := of_decide_eq_false h; omega)
  with_reducible replace Q15 := of_decide_eq_false Q15
  refine st_unguard rfl ?_
  refine st_val (ro_fieldAddr SegHelp_f25_2 rfl) ?_
  refine st_unguard rfl ?_
  refine st_val (ro_load SegHelp_g23 rfl (by exact (hk1.from_ ((From.rfl_.next E5).next E16)).rd 2 rfl)) ?_
  refine st_unguard rfl ?_
  refine st_val (ro_len SegHelp_l23 rfl) ?_
  refine st_unguard rfl ?_
  refine st_val (ro_gtr rfl rfl) ?_
  refine st_val (ro_pickF (v := .bool _) rfl rfl) ?_
  refine mvb rfl ?_
  refine st_split (t := 31) rfl (fun Q16 => ?_) (fun Q16 => ?_)
  · with_reducible replace Q16 := of_decide_eq_true Q16
    refine st_gno rfl rfl ?_
    refine st_gno rfl rfl ?_
    refine st_gno rfl rfl ?_
    refine st_gno rfl rfl ?_
    refine st_val (ro_pickT (v := .bool _) rfl rfl) ?_
    refine mvb rfl ?_
    refine st_gno rfl rfl ?_
    refine st_gno rfl rfl ?_
    refine st_gno rfl rfl ?_
    refine st_gno rfl rfl ?_
    refine st_val (ro_pickT (v := .bool _) rfl rfl) ?_
    refine asb rfl ?_
    refine st_nil (nx_then (cd_ret ?_))
    refine res1 (v := .bool _) rfl rfl ?_
    refine ⟨⟨_, rfl, fun h => ?_⟩, (((From.rfl_.next E1).next E5).next E16)⟩
    first
      | (cases h; done)
      | omega
      | (have hq := of_decide_eq_false h; omega)
  with_reducible replace Q16 := of_decide_eq_false Q16
  refine st_unguard rfl ?_
  refine st_val (ro_fieldAddr SegHelp_f25_1 rfl) ?_
  refine st_unguard rfl ?_
  refine st_val (ro_load SegHelp_g23 rfl (by exact (hk1.from_ ((From.rfl_.next E5).next E16)).rd 1 rfl)) ?_
  refine st_unguard rfl ?_
  refine st_call SegHelp_k28 (textW_rt B cb ps.length ps _ (ha.rowP.from_ (((From.rfl_.next E1).next E5).next E16)) rfl (by omega) ha.smP) ?_
  rintro v34 w17 ⟨⟨m34, rfl, hm34⟩, E34⟩
  refine st_unguard rfl ?_
  refine st_val (ro_gtr rfl rfl) ?_
  refine st_val (ro_pickF (v := .bool _) rfl rfl) ?_
  refine mvb rfl ?_
  refine st_split (t := 37) rfl (fun Q18 => ?_) (fun Q18 => ?_)
  · with_reducible replace Q18 := of_decide_eq_true Q18
    refine st_gno rfl rfl ?_
    refine st_gno rfl rfl ?_
    refine st_gno rfl rfl ?_
    refine st_gno rfl rfl ?_
    refine st_val (ro_pickT (v := .bool _) rfl rfl) ?_
    refine asb rfl ?_
    refine st_nil (nx_then (cd_ret ?_))
    refine res1 (v := .bool _) rfl rfl ?_
    refine ⟨⟨_, rfl, fun h => ?_⟩, ((((From.rfl_.next E1).next E5).next E16).next E34)⟩
    first
      | (cases h; done)
      | omega
      | (have hq := of_decide_eq_false h; omega)
  with_reducible replace Q18 := of_decide_eq_false Q18
  refine st_unguard rfl ?_
  refine st_val (ro_fieldAddr SegHelp_f25_2 rfl) ?_
  refine st_unguard rfl ?_
  refine st_val (ro_load SegHelp_g23 rfl (by exact (hk1.from_ (((From.rfl_.next E5).next E16).next E34)).rd 2 rfl)) ?_
  refine st_unguard rfl ?_
  refine st_call SegHelp_k28 (textW_rt C cc ns.length ns _ (ha.rowN.from_ ((((From.rfl_.next E1).next E5).next E16).next E34)) rfl (by omega) ha.smN) ?_
  rintro v40 w19 ⟨⟨m40, rfl, hm40⟩, E40⟩
  refine st_unguard rfl ?_
  refine st_val (ro_gtr rfl rfl) ?_
  refine st_val (ro_pickF (v := .bool _) rfl rfl) ?_
  refine asb rfl ?_
  refine st_nil (nx_then (cd_ret ?_))
  refine res1 (v := .bool _) rfl rfl ?_
  refine ⟨⟨_, rfl, fun h => ?_⟩, (((((From.rfl_.next E1).next E5).next E16).next E34).next E40)⟩
  first
    | (cases h; done)
    | omega
    | (have hq := of_decide_eq_false h; omega)
theorem own_nil {w : World} {base e s n c : Nat} {A : Option Addr} {xs : List Value} (h : w.ownsRow base e s (.slice A n c) n xs) : A = none → n = 0 ∧ c = 0 := fun hA => by
  rcases h.2 with ⟨h0, h1⟩ | ⟨g, cap, cur, hv, _⟩
  · simp only [Value.slice.injEq] at h0
    exact ⟨h0.2.1, h0.2.2⟩
  · simp only [Value.slice.injEq] at hv
    rw [hA] at hv
    cases hv.1
theorem SegAt.ptr {w : World} {base s : Nat} {ds : List Dc} (h : SegAt w base s ds) : ∃ (x bd tb : Nat) (A : Option Addr) (c a : Nat) (AS : Option Addr) (ls cs gr r1 : Nat), Blk w s 47 #[.pointer (some ⟨x, 0, none⟩), .slice A ds.length c, .pointer (some ⟨bd, 0, none⟩), .int .i64 ((dsz ds : Nat) : Int)] ∧ Blk w x 54 #[.pointer (some ⟨tb, 0, none⟩), .int .i64 (a : Nat), .slice AS ls cs, .slice (some ⟨gr, 0, none⟩) r1 r1] := by
  obtain ⟨h0, x, bd, a, B, F, A, c, h1, h2, h3, h4, h5⟩ := h
  obtain ⟨tb, AS, cs, gr, hI⟩ := h2.ptr
  exact ⟨x, bd, tb, A, c, a, AS, _, cs, gr, _, h1, hI⟩
theorem doc_ax : docE [(⟨#[97]⟩, ⟨#[120, 120]⟩)] = 0 := doc_0 (fun i hi => by
  have : i < 1 := hi
  obtain rfl : i = 0 := by omega
  exact ⟨by decide, by decide, fun h => absurd h (by omega)⟩) ⟨by decide, fun d hd => by rw [List.mem_singleton] at hd; subst hd; decide, by decide⟩
theorem hits_ax : segH [(⟨#[97]⟩, ⟨#[120, 120]⟩)] ⟨#[120]⟩ = [(⟨#[97]⟩, 0), (⟨#[97]⟩, 1)] := by
  have e2 : txt ⟨#[120, 120]⟩ = [121, 121] := by unfold txt; rw [Lib.toList_data]; rfl
  have e3 : txt ⟨#[120]⟩ = [121] := by unfold txt; rw [Lib.toList_data]; rfl
  have e4 : patE ⟨#[120]⟩ = 0 := by decide
  have e5 : ks [121, 121] [121] = [0, 1] := by decide
  unfold segH
  rw [e4, if_pos rfl]
  unfold hits hits
  rw [e2, e3, e5]
  rfl
theorem rowD1 {w : World} {g : Nat} {a b : ByteArray} (h : Blk w g 65 #[.string a, .string b]) : RowK 2 dV w (some ⟨g, 0, none⟩) [(a, b)] := fun _ => ⟨g, 0, rfl, fun i hi => by
  match i, hi with
  | 0, _ => exact h.whole⟩
theorem new_ax (g : Nat) (w : World) (h : Blk w g 65 #[.string ⟨#[97]⟩, .string ⟨#[120, 120]⟩]) : Rt Try.prog 24 [.slice (some ⟨g, 0, none⟩) 1 1] w fun v w' => (∃ s, v = .tuple #[.pointer (some ⟨s, 0, none⟩), .int .i64 0] ∧ SegAt w' w.heap.size s [(⟨#[97]⟩, ⟨#[120, 120]⟩)]) ∧ From w w' := by
  refine (new_s (some ⟨g, 0, none⟩) 1 1 [(⟨#[97]⟩, ⟨#[120, 120]⟩)] w (rowD1 h) rfl (by omega) (fun h => by cases h)).mono fun v w' h => ?_
  obtain ⟨h, hF⟩ := h
  rcases h with ⟨h, _⟩ | ⟨_, h⟩
  · exact absurd doc_ax h
  · exact ⟨h, hF⟩
theorem search_ax (base s : Nat) (w : World) (h : SegAt w base s [(⟨#[97]⟩, ⟨#[120, 120]⟩)]) : Rt Try.prog 12 [.pointer (some ⟨s, 0, none⟩), .string ⟨#[120]⟩] w fun v w' => (∃ A' c', v = .tuple #[.slice A' 2 c', .int .i64 0] ∧ RowK 2 hV w' A' [(⟨#[97]⟩, 0), (⟨#[97]⟩, 1)]) ∧ From w w' := by
  refine (search_rt base s _ w h ⟨#[120]⟩ (by decide)).mono fun v w' h => ?_
  obtain ⟨⟨A', c', rfl, ho⟩, hF⟩ := h
  rw [hits_ax] at ho ⊢
  exact ⟨⟨A', c', rfl, (RowK.own hV_len (by decide) ho).2⟩, hF⟩
theorem rowH2 {w : World} {g : Nat} {a b : ByteArray} {x y : Int} (h : Blk w g 63 #[.string a, .int .i64 x, .string b, .int .i64 y]) : RowK 2 hV w (some ⟨g, 0, none⟩) [(a, x), (b, y)] := fun _ => ⟨g, 0, rfl, fun i hi => by
  match i, hi with
  | 0, _ => exact h.range 0 _ (fun j v hv => by match j, hv with | 0, hv => exact hv | 1, hv => exact hv | j + 2, hv => simp [hV] at hv)
  | 1, _ => exact h.range 2 _ (fun j v hv => by match j, hv with | 0, hv => exact hv | 1, hv => exact hv | j + 2, hv => simp [hV] at hv)⟩
set_option maxHeartbeats 400000 in
theorem wakes_rt (w : World) :
    Rt Try.prog 9 [] w (fun v w' => v = .bool true ∧ From w w') := by
  refine enter (n := 33) Try.func9 rfl rfl rfl ?_
  refine cd_seq (cd_region ?_)
  refine asb rfl ?_
  refine st_nil (nx_then (cd_seq (cd_region ?_)))
  refine st_val (ro_build (l := [(0, .const (.string ⟨#[97]⟩)), (1, .const (.string ⟨#[120, 120]⟩))]) (SegHelp_b65_0cstring97_1cstring120120)) ?_
  refine st_litK2 SegHelp_q22 rfl rfl rfl ?_
  intro b7 w1 E7 hb7 hk7
  refine st_call SegHelp_k24 (new_ax b7 _ hk7) ?_
  rintro v8 w2 ⟨⟨s8, rfl, hs8⟩, E8⟩
  refine mvt rfl ?_
  refine st_val (ro_extract rfl rfl) ?_
  refine st_val (ro_extract rfl rfl) ?_
  refine asp rfl ?_
  refine asi rfl ?_
  refine st_nil (nx_then (cd_seq (cd_seq (cd_region ?_))))
  refine mvi rfl ?_
  refine st_call SegHelp_k13 (num_any _ _) ?_
  rintro v12 w3 ⟨rfl, rfl⟩
  refine st_val (ro_bf (ro_neq rfl rfl) rfl) ?_
  refine mvb rfl ?_
  refine st_unguard rfl ?_
  refine mvp rfl ?_
  refine st_unguard rfl ?_
  refine st_val (ro_bf (ro_eqlNil (by kernel_rfl) rfl rfl) rfl) ?_
  refine st_val (ro_pickF (v := .bool _) rfl rfl) ?_
  refine st_nil (nx_then ?_)
  refine cd_condF rfl ?_
  refine cd_skip (nx_then (cd_seq (cd_region ?_)))
  refine mvp rfl ?_
  refine st_call SegHelp_k12 (search_ax _ s8 _ (hs8.from_ From.rfl_)) ?_
  rintro v20 w4 ⟨⟨A20, c20, rfl, hr20⟩, E20⟩
  refine mvt rfl ?_
  refine st_val (ro_extract rfl rfl) ?_
  refine st_val (ro_extract rfl rfl) ?_
  refine ass rfl ?_
  refine asi rfl ?_
  refine st_nil (nx_then (cd_seq (cd_region ?_)))
  refine mvi rfl ?_
  refine st_call SegHelp_k13 (num_any _ _) ?_
  rintro v24 w5 ⟨rfl, rfl⟩
  refine st_val (ro_bt (ro_eql rfl rfl) rfl) ?_
  refine mvb rfl ?_
  refine st_unguard rfl ?_
  refine mvs rfl ?_
  refine st_unguard rfl ?_
  refine st_val (ro_build (l := [(0, .const (.string ⟨#[97]⟩))]) (SegHelp_b63_0cstring97)) ?_
  refine st_unguard rfl ?_
  refine st_val (ro_build (l := [(0, .const (.string ⟨#[97]⟩)), (1, .const (.int .i64 1))]) (SegHelp_b63_0cstring97_1cinti641)) ?_
  refine st_unguard rfl ?_
  refine st_lit (l := [(0, .tmp 28), (1, .tmp 29)]) (cells := #[.string ⟨#[97]⟩, .int .i64 0, .string ⟨#[97]⟩, .int .i64 1]) SegHelp_q32 rfl rfl (by kernel_rfl) ?_
  intro b30 w6 E30 hb30 hk30
  refine st_unguard rfl ?_
  refine st_call SegHelp_k14 (eqHits_rt A20 (some ⟨b30, 0, none⟩) c20 2 2 2 [(⟨#[97]⟩, 0), (⟨#[97]⟩, 1)] [(⟨#[97]⟩, 0), (⟨#[97]⟩, 1)] _ (hr20.from_ E30) (rowH2 hk30) rfl rfl (by omega)) ?_
  rintro v31 w7 ⟨rfl, E31⟩
  refine st_val (ro_pickT (v := .bool _) rfl rfl) ?_
  refine asb rfl ?_
  refine st_nil (nx_then (cd_ret ?_))
  refine res1 (v := .bool _) rfl rfl ?_
  exact ⟨congrArg Value.bool (decide_eq_true rfl), (((((From.rfl_.next E7).next E8).next E20).next E30).next E31)⟩
set_option maxHeartbeats 2000000 in
theorem made_rt (A B C : Option Addr) (ca cb cc : Nat) (ds : List Dc) (ps ns : List ByteArray) (w : World) (ha : AskS w A B C ca ds ps ns) (hl : ds.length ≤ 60000) :
    Rt Try.prog 8 [.agg #[.slice A ds.length ca, .slice B ps.length cb, .slice C ns.length cc]] w (fun v w' => NewS w' w.heap.size ds v ∧ From w w') := by
  refine enter (n := 55) Try.func8 rfl rfl rfl ?_
  refine cd_seq (cd_region ?_)
  refine st_box (v := .agg _) rfl ?_
  intro b1 w1 E1 hb1 hk1
  refine asp rfl ?_
  refine asi rfl ?_
  refine st_nil (nx_then (cd_seq (cd_region ?_)))
  refine st_val (ro_fieldAddr SegHelp_f25_0 rfl) ?_
  refine st_val (ro_load SegHelp_g22 rfl (by exact (hk1.from_ From.rfl_).rd 0 rfl)) ?_
  have hB10 := (From.rfl_.next E1)
  have hl10 := (hk1.from_ From.rfl_).lt
  refine st_call SegHelp_k26 (copyDocs_rt A ca ds.length ds _ (ha.row.from_ (From.rfl_.next E1)) rfl (by omega)) ?_
  rintro v10 w2 ⟨⟨A10, c10, rfl, ho10⟩, E10⟩
  refine ass rfl ?_
  refine st_nil (nx_then (cd_seq (cd_region ?_)))
  refine mvs rfl ?_
  have hB13 := ((From.rfl_.next E1).next E10)
  refine st_call SegHelp_k24 (new_s A10 c10 ds.length ds _ (RowK.own dV_len (by decide) ho10).2 rfl (by omega) (own_nil ho10)) ?_
  rintro v13 w3 ⟨hs13, E13⟩
  replace hk1 := hk1.from_ ((From.rfl_.next E10).next E13)
  rcases hs13 with ⟨hck, rfl⟩ | ⟨hck, s, rfl, hsg⟩
  · have hb33 : (docE ds != 0) = true := by simpa using hck
    refine mvt rfl ?_
    refine st_val (ro_extract rfl rfl) ?_
    refine st_val (ro_extract rfl rfl) ?_
    refine asp rfl ?_
    refine asi rfl ?_
    refine st_nil (nx_then (cd_seq (cd_region ?_)))
    refine mvs rfl ?_
    refine st_call SegHelp_k29 (spoilDocs_rt _ A10 c10 ds.length ds _ (ho10.kept_from E13) (by omega) (by have := E10.size; have := E13.size; omega)) ?_
    rintro v17 w4 hg17
    replace hk1 := hk1.grown hg17 (fun k hk => by have := own_at ho10 k hk; omega)
    (try replace hsg := hsg.grown hg17 (fun k hk => (own_at ho10 k hk).2))
    (try obtain ⟨x, bd, tb, A9, c9, a9, AS, ls, cs, gr, r1, hS, hX⟩ := hsg.ptr)
    refine st_nil (nx_then (cd_seq (cd_region ?_)))
    refine st_val (ro_fieldAddr SegHelp_f25_0 rfl) ?_
    refine st_val (ro_load SegHelp_g22 rfl (by exact (hk1.from_ From.rfl_).rd 0 rfl)) ?_
    refine st_call SegHelp_k30 (refDocs_rt A ca ds.length ds _ (ha.row.from_ ((((From.rfl_.next E1).next E10).next E13).grew hg17 (fun k hk => Nat.le_trans hB10.size (own_at ho10 k hk).1))) rfl (by omega)) ?_
    rintro v20 w5 ⟨rfl, E20⟩
    refine asi rfl ?_
    refine st_nil (nx_then (cd_seq (cd_seq (cd_region ?_))))
    refine mvi rfl ?_
    refine st_call SegHelp_k13 (num_any _ _) ?_
    rintro v22 w6 ⟨rfl, rfl⟩
    refine mvi rfl ?_
    refine st_val (ro_neq rfl rfl) ?_
    refine mvb rfl ?_
    refine st_split (t := 25) rfl (fun Q7 => ?_) (fun Q7 => ?_)
    · replace Q7 := bn_t Q7; replace Q7 := be_f Q7
      first
       | (exfalso; first | (first | omega | (simp [hb33] at *; done); trace "@MK D made_rt:f13.0.g25+ 1") | (contradiction; trace "@MK D made_rt:f13.0.g25+ 2") | ((cases Q7; done); trace "@MK D made_rt:f13.0.g25+ 3"))
       | (trace "@MK D made_rt:f13.0.g25+ 0")
         refine st_gno rfl rfl ?_
         refine st_gno rfl rfl ?_
         refine st_gno rfl rfl ?_
         refine st_gno rfl rfl ?_
         refine st_gno rfl rfl ?_
         refine st_val (ro_pickT (v := .bool _) rfl rfl) ?_
         refine mvb rfl ?_
         refine st_gno rfl rfl ?_
         refine st_gno rfl rfl ?_
         refine st_gno rfl rfl ?_
         refine st_gund rfl ?_
         refine st_gund rfl ?_
         refine st_gund rfl ?_
         refine st_gund rfl ?_
         refine st_gund rfl ?_
         refine st_gund rfl ?_
         refine st_gund rfl ?_
         refine st_gund rfl ?_
         refine st_gund rfl ?_
         refine st_gund rfl ?_
         refine st_gund rfl ?_
         refine st_gund rfl ?_
         refine st_gund rfl ?_
         refine st_gund rfl ?_
         refine st_gund rfl ?_
         refine st_gno rfl rfl ?_
         refine st_val (ro_pickT (v := .bool _) rfl rfl) ?_
         refine st_nil (nx_then ?_)
         refine cd_condT rfl ?_
         refine cd_seq (cd_region ?_)
         refine asp rfl ?_
         refine asi rfl ?_
         refine st_nil (nx_then (cd_ret (rt_then ?_)))
         refine res2 (v := .pointer _) (v' := .int _ _) rfl rfl rfl ?_
         exfalso; simp_all
    replace Q7 := bn_f Q7; replace Q7 := be_t Q7
    refine st_unguard rfl ?_
    refine mvp rfl ?_
    refine st_unguard rfl ?_
    refine st_val (ro_eqlNil SegHelp_p27 rfl rfl) ?_
    refine st_unguard rfl ?_
    refine mvi rfl ?_
    refine st_unguard rfl ?_
    refine st_val (ro_neq rfl rfl) ?_
    refine st_unguard rfl ?_
    refine st_val (ro_neqB (by kernel_rfl) rfl rfl) ?_
    refine st_val (ro_pickF (v := .bool _) rfl rfl) ?_
    refine mvb rfl ?_
    refine st_split (t := 32) rfl (fun Q8 => ?_) (fun Q8 => ?_)
    · replace Q8 := bn_t Q8; replace Q8 := be_f Q8
      exfalso; first | omega | (simp [hb33] at *; done)
    replace Q8 := bn_f Q8; replace Q8 := be_t Q8
    refine st_unguard rfl ?_
    refine mvp rfl ?_
    refine st_unguard rfl ?_
    refine st_val (ro_neqNil SegHelp_p27 rfl rfl) ?_
    refine st_unguard rfl ?_
    refine mvb rfl ?_
    refine st_split (t := 35) rfl (fun Q9 => ?_) (fun Q9 => ?_)
    · replace Q9 := bn_t Q9
      exfalso; first | omega | (simp [hb33] at *; done)
    replace Q9 := bn_f Q9
    refine st_gno rfl rfl ?_
    refine st_gno rfl rfl ?_
    refine st_gno rfl rfl ?_
    refine st_gno rfl rfl ?_
    refine st_gno rfl rfl ?_
    refine st_gno rfl rfl ?_
    refine st_gund rfl ?_
    refine st_gund rfl ?_
    refine st_gund rfl ?_
    refine st_gund rfl ?_
    refine st_gund rfl ?_
    refine st_gund rfl ?_
    refine st_gund rfl ?_
    refine st_gund rfl ?_
    refine st_gno rfl rfl ?_
    refine st_unguard rfl ?_
    refine st_val (ro_pickF (v := .bool _) rfl rfl) ?_
    refine st_val (ro_pickF (v := .bool _) rfl rfl) ?_
    refine st_nil (nx_then ?_)
    refine cd_condF rfl ?_
    refine cd_skip (nx_then (cd_seq (cd_region ?_)))
    refine mvp rfl ?_
    refine mvi rfl ?_
    refine asp rfl ?_
    refine asi rfl ?_
    refine st_nil (nx_then (cd_ret ?_))
    refine res2 (v := .pointer _) (v' := .int _ _) rfl rfl rfl ?_
    first
      | exact ⟨.inl ⟨hck, rfl⟩, (((((From.rfl_.next E1).next E10).next E13).grew hg17 (fun k hk => Nat.le_trans hB10.size (own_at ho10 k hk).1)).next E20)⟩
      | exact ⟨.inr ⟨hck, s, by rw [hck], (hsg.from_ (From.rfl_.next E20)).le hB13.size⟩, (((((From.rfl_.next E1).next E10).next E13).grew hg17 (fun k hk => Nat.le_trans hB10.size (own_at ho10 k hk).1)).next E20)⟩
  have hb33 : (docE ds != 0) = false := by rw [hck]; rfl
  refine mvt rfl ?_
  refine st_val (ro_extract rfl rfl) ?_
  refine st_val (ro_extract rfl rfl) ?_
  refine asp rfl ?_
  refine asi rfl ?_
  refine st_nil (nx_then (cd_seq (cd_region ?_)))
  refine mvs rfl ?_
  refine st_call SegHelp_k29 (spoilDocs_rt _ A10 c10 ds.length ds _ (ho10.kept_from E13) (by omega) (by have := E10.size; have := E13.size; omega)) ?_
  rintro v17 w12 hg17
  replace hk1 := hk1.grown hg17 (fun k hk => by have := own_at ho10 k hk; omega)
  (try replace hsg := hsg.grown hg17 (fun k hk => (own_at ho10 k hk).2))
  (try obtain ⟨x, bd, tb, A9, c9, a9, AS, ls, cs, gr, r1, hS, hX⟩ := hsg.ptr)
  refine st_nil (nx_then (cd_seq (cd_region ?_)))
  refine st_val (ro_fieldAddr SegHelp_f25_0 rfl) ?_
  refine st_val (ro_load SegHelp_g22 rfl (by exact (hk1.from_ From.rfl_).rd 0 rfl)) ?_
  refine st_call SegHelp_k30 (refDocs_rt A ca ds.length ds _ (ha.row.from_ ((((From.rfl_.next E1).next E10).next E13).grew hg17 (fun k hk => Nat.le_trans hB10.size (own_at ho10 k hk).1))) rfl (by omega)) ?_
  rintro v20 w13 ⟨rfl, E20⟩
  refine asi rfl ?_
  refine st_nil (nx_then (cd_seq (cd_seq (cd_region ?_))))
  refine mvi rfl ?_
  refine st_call SegHelp_k13 (num_any _ _) ?_
  rintro v22 w14 ⟨rfl, rfl⟩
  refine mvi rfl ?_
  refine st_val (ro_neq rfl rfl) ?_
  refine mvb rfl ?_
  refine st_split (t := 25) rfl (fun Q15 => ?_) (fun Q15 => ?_)
  · replace Q15 := bn_t Q15; replace Q15 := be_f Q15
    first
     | (exfalso; first | (first | omega | (simp [hb33] at *; done); trace "@MK D made_rt:f13.1.g25+ 1") | (contradiction; trace "@MK D made_rt:f13.1.g25+ 2") | ((cases Q15; done); trace "@MK D made_rt:f13.1.g25+ 3"))
     | (trace "@MK D made_rt:f13.1.g25+ 0")
       refine st_gno rfl rfl ?_
       refine st_gno rfl rfl ?_
       refine st_gno rfl rfl ?_
       refine st_gno rfl rfl ?_
       refine st_gno rfl rfl ?_
       refine st_val (ro_pickT (v := .bool _) rfl rfl) ?_
       refine mvb rfl ?_
       refine st_gno rfl rfl ?_
       refine st_gno rfl rfl ?_
       refine st_gno rfl rfl ?_
       refine st_gund rfl ?_
       refine st_gund rfl ?_
       refine st_gund rfl ?_
       refine st_gund rfl ?_
       refine st_gund rfl ?_
       refine st_gund rfl ?_
       refine st_gund rfl ?_
       refine st_gund rfl ?_
       refine st_gund rfl ?_
       refine st_gund rfl ?_
       refine st_gund rfl ?_
       refine st_gund rfl ?_
       refine st_gund rfl ?_
       refine st_gund rfl ?_
       refine st_gund rfl ?_
       refine st_gno rfl rfl ?_
       refine st_val (ro_pickT (v := .bool _) rfl rfl) ?_
       refine st_nil (nx_then ?_)
       refine cd_condT rfl ?_
       refine cd_seq (cd_region ?_)
       refine asp rfl ?_
       refine asi rfl ?_
       refine st_nil (nx_then (cd_ret (rt_then ?_)))
       refine res2 (v := .pointer _) (v' := .int _ _) rfl rfl rfl ?_
       exfalso; simp_all
  replace Q15 := bn_f Q15; replace Q15 := be_t Q15
  refine st_unguard rfl ?_
  refine mvp rfl ?_
  refine st_unguard rfl ?_
  refine st_val (ro_eqlNil SegHelp_p27 rfl rfl) ?_
  refine st_unguard rfl ?_
  refine mvi rfl ?_
  refine st_unguard rfl ?_
  refine st_val (ro_neq rfl rfl) ?_
  refine st_unguard rfl ?_
  refine st_val (ro_neqB (by kernel_rfl) rfl rfl) ?_
  refine st_val (ro_pickF (v := .bool _) rfl rfl) ?_
  refine mvb rfl ?_
  refine st_split (t := 32) rfl (fun Q16 => ?_) (fun Q16 => ?_)
  · replace Q16 := bn_t Q16; replace Q16 := be_f Q16
    exfalso; first | omega | (simp [hb33] at *; done)
  replace Q16 := bn_f Q16; replace Q16 := be_t Q16
  refine st_unguard rfl ?_
  refine mvp rfl ?_
  refine st_unguard rfl ?_
  refine st_val (ro_neqNil SegHelp_p27 rfl rfl) ?_
  refine st_unguard rfl ?_
  refine mvb rfl ?_
  refine st_split (t := 35) rfl (fun Q17 => ?_) (fun Q17 => ?_)
  rotate_left
  · replace Q17 := bn_f Q17
    exfalso; first | omega | (simp [hb33] at *; done)
  replace Q17 := bn_t Q17
  refine st_unguard rfl ?_
  refine mvp rfl ?_
  refine st_unguard rfl ?_
  refine st_val (ro_nilCheck rfl) ?_
  refine st_unguard rfl ?_
  refine st_val (ro_fieldAddr SegHelp_f47_0 rfl) ?_
  refine st_unguard rfl ?_
  refine st_val (ro_load SegHelp_g44 rfl (by exact (hS.from_ (From.rfl_.next E20)).rd 0 rfl)) ?_
  refine st_unguard rfl ?_
  refine st_val (ro_eqlNil SegHelp_p44 rfl rfl) ?_
  refine st_unguard rfl ?_
  refine mvb rfl ?_
  refine st_split (t := 41) rfl (fun Q18 => ?_) (fun Q18 => ?_)
  · exfalso; first | omega | (simp [hb33] at *; done)
  refine st_unguard rfl ?_
  refine mvp rfl ?_
  refine st_unguard rfl ?_
  refine st_val (ro_nilCheck rfl) ?_
  refine st_unguard rfl ?_
  refine st_val (ro_fieldAddr SegHelp_f47_0 rfl) ?_
  refine st_unguard rfl ?_
  refine st_val (ro_load SegHelp_g44 rfl (by exact (hS.from_ (From.rfl_.next E20)).rd 0 rfl)) ?_
  refine st_unguard rfl ?_
  refine st_val (ro_nilCheck rfl) ?_
  refine st_unguard rfl ?_
  refine st_val (ro_fieldAddr SegHelp_f54_0 rfl) ?_
  refine st_unguard rfl ?_
  refine st_val (ro_load SegHelp_g50 rfl (by exact (hX.from_ (From.rfl_.next E20)).rd 0 rfl)) ?_
  refine st_unguard rfl ?_
  refine st_val (ro_eqlNil SegHelp_p50 rfl rfl) ?_
  refine st_unguard rfl ?_
  refine st_val (ro_pickF (v := .bool _) rfl rfl) ?_
  refine st_unguard rfl ?_
  refine st_val (ro_pickT (v := .bool _) rfl rfl) ?_
  refine st_val (ro_pickF (v := .bool _) rfl rfl) ?_
  refine st_nil (nx_then ?_)
  refine cd_cond rfl (fun Q19 => ?_) (fun Q19 => ?_)
  · exfalso; first | omega | (simp [hb33] at *; done)
  refine cd_skip (nx_then (cd_seq (cd_region ?_)))
  refine mvp rfl ?_
  refine mvi rfl ?_
  refine asp rfl ?_
  refine asi rfl ?_
  refine st_nil (nx_then (cd_ret ?_))
  refine res2 (v := .pointer _) (v' := .int _ _) rfl rfl rfl ?_
  first
    | exact ⟨.inl ⟨hck, rfl⟩, (((((From.rfl_.next E1).next E10).next E13).grew hg17 (fun k hk => Nat.le_trans hB10.size (own_at ho10 k hk).1)).next E20)⟩
    | exact ⟨.inr ⟨hck, s, by rw [hck], (hsg.from_ (From.rfl_.next E20)).le hB13.size⟩, (((((From.rfl_.next E1).next E10).next E13).grew hg17 (fun k hk => Nat.le_trans hB10.size (own_at ho10 k hk).1)).next E20)⟩
end Go.Proofs.Ytllmocjfllbbfaa

namespace Go.Proofs.Ytllmocjfllbbfaa
open Go.RowKit
open Go.ChangeShapes Go.WideShapes Go.ChangeAt
open Go.Proofs.Ytllmocjfllbbfaa.SA
theorem SegLawS_g25 : aggQ Try.prog 25 = some true := by kernel_rfl
theorem SegLawS_z25 : sizeQ Try.prog 25 = some 3 := by kernel_rfl
theorem SegLawS_k7 : callable Try.prog 7 = true := by kernel_rfl
theorem SegLawS_k8 : callable Try.prog 8 = true := by kernel_rfl
theorem SegLawS_p27 : Try.prog.underlying 27 = some (.pointer (Try.prog.pointee 27)) := by kernel_rfl
theorem SegLawS_k9 : callable Try.prog 9 = true := by kernel_rfl
theorem SegLawS_f25_1 : fieldQ Try.prog 25 1 = some 1 := by kernel_rfl
theorem SegLawS_g23 : aggQ Try.prog 23 = some false := by kernel_rfl
theorem SegLawS_l23 : (elemQ Try.prog 23).isSome = true := by kernel_rfl
theorem SegLawS_e23 : elemQ Try.prog 23 = some (9, 1) := by kernel_rfl
theorem SegLawS_g9 : aggQ Try.prog 9 = some false := by kernel_rfl
theorem SegLawS_k10 : callable Try.prog 10 = true := by kernel_rfl
theorem SegLawS_f25_0 : fieldQ Try.prog 25 0 = some 0 := by kernel_rfl
theorem SegLawS_g22 : aggQ Try.prog 22 = some false := by kernel_rfl
theorem SegLawS_k11 : callable Try.prog 11 = true := by kernel_rfl
theorem SegLawS_k12 : callable Try.prog 12 = true := by kernel_rfl
theorem SegLawS_k13 : callable Try.prog 13 = true := by kernel_rfl
theorem SegLawS_k14 : callable Try.prog 14 = true := by kernel_rfl
theorem SegLawS_k15 : callable Try.prog 15 = true := by kernel_rfl
theorem segH_len {ds : List Dc} {p : ByteArray} : (segH ds p).length ≤ dsz ds + ds.length := by
  unfold segH
  split
  · exact hits_le ds
  · exact Nat.zero_le _
theorem patE_ok {p : ByteArray} (h : patE p = 0) : p.size ≠ 0 ∧ p.size ≤ 4096 := by
  unfold patE at h
  split at h
  · cases h
  · split at h
    · cases h
    · exact ⟨by assumption, by omega⟩
set_option maxHeartbeats 3000000 in
theorem searches_law (A B C : Option Addr) (ca cb cc : Nat) (ds : List Dc) (ps ns : List ByteArray) (w : World) (ha : AskS w A B C ca ds ps ns) :
    Rt Try.prog 3 [.agg #[.slice A ds.length ca, .slice B ps.length cb, .slice C ns.length cc]] w (fun v w' => v = .bool true ∧ From w w') := by
  have hlenP := ha.lenP
  refine enter (n := 70) Try.func3 rfl rfl rfl ?_
  refine cd_seq (cd_region ?_)
  refine st_box (v := .agg _) rfl ?_
  intro b1 w1 E1 hb1 hk1
  refine asb rfl ?_
  refine st_nil (nx_then (cd_seq (cd_seq (cd_region ?_))))
  refine st_val (ro_loadA (cs := [_, _, _]) SegLawS_g25 SegLawS_z25 rfl (by first | (first | exact (hP1.from_ From.rfl_).whole | exact (hP1.from_ From.rfl_).rd 0 rfl | exact (hP1.from_ From.rfl_).rd 1 rfl | exact (hP1.from_ From.rfl_).rd 2 rfl) | (first | exact (hk1.from_ From.rfl_).whole | exact (hk1.from_ From.rfl_).rd 0 rfl | exact (hk1.from_ From.rfl_).rd 1 rfl | exact (hk1.from_ From.rfl_).rd 2 rfl))) ?_
  refine st_call SegLawS_k7 (heavy_rt A B C ca cb cc ds ps ns _ (ha.from_ (From.rfl_.next E1))) ?_
  rintro v11 w2 ⟨⟨hv, rfl, hli⟩, E11⟩
  refine st_nil (nx_then ?_)
  refine cd_cond rfl (fun Q3 => ?_) (fun Q3 => ?_)
  · refine cd_seq (cd_region ?_)
    refine asb rfl ?_
    refine st_nil (nx_then (cd_ret (rt_then ?_)))
    refine res1 (v := .bool _) rfl rfl ?_
    exact ⟨rfl, ((From.rfl_.next E1).next E11)⟩
  obtain ⟨hl1, hl2, hl3⟩ := hli (by simpa using Q3)
  refine cd_skip (nx_then (cd_seq (cd_region ?_)))
  refine st_val (ro_loadA (cs := [_, _, _]) SegLawS_g25 SegLawS_z25 rfl (by first | (first | exact (hP1.from_ (From.rfl_.next E11)).whole | exact (hP1.from_ (From.rfl_.next E11)).rd 0 rfl | exact (hP1.from_ (From.rfl_.next E11)).rd 1 rfl | exact (hP1.from_ (From.rfl_.next E11)).rd 2 rfl) | (first | exact (hk1.from_ (From.rfl_.next E11)).whole | exact (hk1.from_ (From.rfl_.next E11)).rd 0 rfl | exact (hk1.from_ (From.rfl_.next E11)).rd 1 rfl | exact (hk1.from_ (From.rfl_.next E11)).rd 2 rfl))) ?_
  have hz14 := (((From.rfl_.next E1).next E11)).size
  refine st_call SegLawS_k8 (made_rt A B C ca cb cc ds ps ns _ (ha.from_ ((From.rfl_.next E1).next E11)) hl1) ?_
  rintro v14 w4 ⟨hs14, E14⟩
  replace hk1 := hk1.from_ ((From.rfl_.next E11).next E14)
  rcases hs14 with ⟨hck, rfl⟩ | ⟨hck, s, rfl, hsg⟩
  · have hb33 : (docE ds != 0) = true := by simpa using hck
    refine mvt rfl ?_
    refine st_val (ro_extract rfl rfl) ?_
    refine st_val (ro_extract rfl rfl) ?_
    refine asp rfl ?_
    refine asi rfl ?_
    refine st_nil (nx_then (cd_seq (cd_seq (cd_region ?_))))
    refine mvp rfl ?_
    refine st_val (ro_eqlNil SegLawS_p27 rfl rfl) ?_
    refine st_nil (nx_then ?_)
    refine cd_cond rfl (fun Q5 => ?_) (fun Q5 => ?_)
    rotate_left
    · exfalso; contradiction
    refine cd_seq (cd_region ?_)
    refine mvi rfl ?_
    refine st_val (ro_neq rfl rfl) ?_
    refine mvb rfl ?_
    refine st_split (t := 21) rfl (fun Q27 => ?_) (fun Q27 => ?_)
    rotate_left
    · with_reducible replace Q27 := bx_f Q27
      exfalso; omega
    with_reducible replace Q27 := bx_t Q27
    refine st_unguard rfl ?_
    refine st_call SegLawS_k9 (wakes_rt _) ?_
    rintro v22 w28 ⟨rfl, E22⟩
    refine st_val (ro_pickT (v := .bool _) rfl rfl) ?_
    refine asb rfl ?_
    refine st_nil (nx_then (cd_ret (rt_then ?_)))
    refine res1 (v := .bool _) rfl rfl ?_
    exact ⟨rfl, ((((From.rfl_.next E1).next E11).next E14).next E22)⟩
  replace hsg := hsg.le hz14
  obtain ⟨hord, hfit⟩ := hsg.docs
  have hf1 := hfit.1
  have hf3 := hfit.2.2
  refine mvt rfl ?_
  refine st_val (ro_extract rfl rfl) ?_
  refine st_val (ro_extract rfl rfl) ?_
  refine asp rfl ?_
  refine asi rfl ?_
  refine st_nil (nx_then (cd_seq (cd_seq (cd_region ?_))))
  refine mvp rfl ?_
  refine st_val (ro_eqlNil SegLawS_p27 rfl rfl) ?_
  refine st_nil (nx_then ?_)
  refine cd_cond rfl (fun Q29 => ?_) (fun Q29 => ?_)
  · exfalso; contradiction
  refine cd_skip (nx_then (cd_seq (cd_seq (cd_region ?_))))
  refine asi rfl ?_
  refine st_nil (nx_then (cd_block ?_))
  refine cd_loop (G := Nat) [2, 6, 7, 8, 9, 24, 25, 26, 27, 28, 29, 30, 31, 32, 33, 34, 35, 36, 37, 38, 39, 40, 41, 42, 43, 44, 45, 46, 47, 48, 49, 50, 51, 52, 53, 54, 55, 56, 57, 58, 59, 60, 61, 62, 63, 64, 65, 66, 67, 68] (fun i => [(5, .int .i64 (i : Nat))]) (fun i w' => i ≤ ps.length ∧ SegAt w' w.heap.size s ds ∧ Blk w' b1 25 #[.slice A ds.length ca, .slice B ps.length cb, .slice C ns.length cc] ∧ From w w') (fun i => ps.length - i) (0) ⟨rfl, trivial⟩ ?_ ?_
  · exact ⟨Nat.zero_le _, hsg.from_ From.rfl_, hk1.from_ From.rfl_, (((From.rfl_.next E1).next E11).next E14)⟩
  rintro i ρ32 w32 ⟨hi, hsg, hP1, hB⟩
  refine cd_seq (cd_seq (cd_region ?_))
  refine mvi rfl ?_
  refine st_val (ro_fieldAddr SegLawS_f25_1 rfl) ?_
  refine st_val (ro_load SegLawS_g23 rfl (by first | (first | exact (hP1.from_ From.rfl_).whole | exact (hP1.from_ From.rfl_).rd 0 rfl | exact (hP1.from_ From.rfl_).rd 1 rfl | exact (hP1.from_ From.rfl_).rd 2 rfl) | (first | exact (hk1.from_ From.rfl_).whole | exact (hk1.from_ From.rfl_).rd 0 rfl | exact (hk1.from_ From.rfl_).rd 1 rfl | exact (hk1.from_ From.rfl_).rd 2 rfl))) ?_
  refine st_val (ro_len SegLawS_l23 rfl) ?_
  refine st_val (ro_lss rfl rfl) ?_
  refine st_nil (nx_then ?_)
  refine cd_cond rfl (fun Q33 => ?_) (fun Q33 => ?_)
  · with_reducible replace Q33 := of_decide_eq_true Q33
    obtain ⟨bD, oD, rfl, hcD⟩ := ha.rowP (by omega)
    have hce := hcD i (by omega)
    have hsmP : (ps[i]).size ≤ 140737488351232 := ha.smP _ (List.getElem_mem (by omega))
    obtain ⟨q, hq⟩ : ∃ q, q = ps[i] := ⟨_, rfl⟩
    rw [← hq] at hce hsmP
    refine cd_skip (nx_then (cd_seq (cd_block (cd_seq (cd_region ?_)))))
    refine st_val (ro_fieldAddr SegLawS_f25_1 rfl) ?_
    refine st_val (ro_load SegLawS_g23 rfl (by first | (first | exact (hP1.from_ From.rfl_).whole | exact (hP1.from_ From.rfl_).rd 0 rfl | exact (hP1.from_ From.rfl_).rd 1 rfl | exact (hP1.from_ From.rfl_).rd 2 rfl) | (first | exact (hk1.from_ From.rfl_).whole | exact (hk1.from_ From.rfl_).rd 0 rfl | exact (hk1.from_ From.rfl_).rd 1 rfl | exact (hk1.from_ From.rfl_).rd 2 rfl))) ?_
    refine mvi rfl ?_
    refine st_val (ro_indexAddr1 SegLawS_e23 rfl rfl (by omega)) ?_
    refine st_val (ro_load SegLawS_g9 rfl (by exact cellF hB hce)) ?_
    refine st_call SegLawS_k10 (refAsks_rt q 1 _) ?_
    rintro v36 w34 ⟨rfl, E36⟩
    rw [ask_one]
    refine asi rfl ?_
    refine st_nil (nx_then (cd_seq (cd_region ?_)))
    refine ass rfl ?_
    refine st_nil (nx_then ?_)
    refine cd_cut (G := Option Addr × Nat) [37, 38, 39, 40, 41, 42, 43, 44, 45, 46] (fun (A7, c7) => [(7, .slice A7 (segH ds q).length c7)]) (fun (A7, c7) w' => RowK 2 hV w' A7 (segH ds q) ∧ SegAt w' w.heap.size s ds ∧ Blk w' b1 25 #[.slice A ds.length ca, .slice (some ⟨bD, oD, none⟩) ps.length cb, .slice C ns.length cc] ∧ From w w') ?_ ?_
    · refine cd_seq (cd_region ?_)
      refine mvi rfl ?_
      refine st_val (ro_eql rfl rfl) ?_
      refine st_nil (nx_then ?_)
      refine cd_cond rfl (fun Q35 => ?_) (fun Q35 => ?_)
      · with_reducible replace Q35 := of_decide_eq_true Q35
        have hqE : patE q = 0 := by simpa using Q35
        apply cd_drawnD 9 [(39, eqp _), (40, eqp _), (41, eqp _), (42, eqp _), (43, eqp _), (44, eqp _), (45, eqp (.string q)), (46, fun v w' => ∃ A' c', v = .slice A' (hits ds q).length c' ∧ RowK 2 hV w' A' (hits ds q)), (7, fun v w' => ∃ A' c', v = .slice A' (hits ds q).length c' ∧ RowK 2 hV w' A' (hits ds q))] (by repeat first | exact pq_body | refine pq_then ?_ | refine pq_block ?_) (by kernel_rfl) (by kernel_rfl) ⟨eqp_mono _, eqp_mono _, eqp_mono _, eqp_mono _, eqp_mono _, eqp_mono _, eqp_mono _, (fun _ _ _ hF ⟨A2, c2, h1, h2⟩ => ⟨A2, c2, h1, h2.from_ hF⟩), (fun _ _ _ hF ⟨A2, c2, h1, h2⟩ => ⟨A2, c2, h1, h2.from_ hF⟩), trivial⟩
        case hop =>
         refine ⟨?_, ?_⟩
         · rintro - w37 D37
           show OpOK _ _ _ _ _ _ _
           exact ok_pure (ro_fieldAddr SegLawS_f25_0 rfl) rfl
         refine ⟨?_, ?_⟩
         · rintro - w38 D38
           rintro _ rfl
           show OpOK _ _ _ _ _ _ _
           exact ok_pure (ro_load SegLawS_g22 rfl (by first | (first | exact (hP1.from_ ((From.rfl_.next E36).next D38)).whole | exact (hP1.from_ ((From.rfl_.next E36).next D38)).rd 0 rfl | exact (hP1.from_ ((From.rfl_.next E36).next D38)).rd 1 rfl | exact (hP1.from_ ((From.rfl_.next E36).next D38)).rd 2 rfl) | (first | exact (hk1.from_ ((From.rfl_.next E36).next D38)).whole | exact (hk1.from_ ((From.rfl_.next E36).next D38)).rd 0 rfl | exact (hk1.from_ ((From.rfl_.next E36).next D38)).rd 1 rfl | exact (hk1.from_ ((From.rfl_.next E36).next D38)).rd 2 rfl))) rfl
         refine ⟨?_, ?_⟩
         · rintro - w39 D39
           show OpOK _ _ _ _ _ _ _
           exact ok_pure (ro_fieldAddr SegLawS_f25_1 rfl) rfl
         refine ⟨?_, ?_⟩
         · rintro - w40 D40
           rintro _ rfl
           show OpOK _ _ _ _ _ _ _
           exact ok_pure (ro_load SegLawS_g23 rfl (by first | (first | exact (hP1.from_ ((From.rfl_.next E36).next D40)).whole | exact (hP1.from_ ((From.rfl_.next E36).next D40)).rd 0 rfl | exact (hP1.from_ ((From.rfl_.next E36).next D40)).rd 1 rfl | exact (hP1.from_ ((From.rfl_.next E36).next D40)).rd 2 rfl) | (first | exact (hk1.from_ ((From.rfl_.next E36).next D40)).whole | exact (hk1.from_ ((From.rfl_.next E36).next D40)).rd 0 rfl | exact (hk1.from_ ((From.rfl_.next E36).next D40)).rd 1 rfl | exact (hk1.from_ ((From.rfl_.next E36).next D40)).rd 2 rfl))) rfl
         refine ⟨?_, ?_⟩
         · rintro - w41 D41
           show OpOK _ _ _ _ _ _ _
           exact ok_pure (ro_move (v := .int _ _) rfl) rfl
         refine ⟨?_, ?_⟩
         · rintro - w42 D42
           rintro _ rfl _ rfl
           show OpOK _ _ _ _ _ _ _
           exact ok_pure (ro_indexAddr1 SegLawS_e23 rfl rfl (by omega)) rfl
         refine ⟨?_, ?_⟩
         · rintro - w43 D43
           rintro _ rfl
           show OpOK _ _ _ _ _ _ _
           exact ok_pure (ro_load SegLawS_g9 rfl (by exact cellF ((hB.next E36).next D43) hce)) rfl
         refine ⟨?_, ?_⟩
         · rintro - w44 D44
           rintro _ rfl v44_45 rfl
           show OpOK _ _ _ _ _ _ _
           refine ok_call SegLawS_k11 ((refHits_rt A ca ds.length ds _ (ha.row.from_ ((hB.next E36).next D44)) rfl (by omega) q (patE_ok hqE).1 hsmP (by omega)).mono ?_)
           rintro v w2 ⟨⟨A3, c3, rfl, ho3⟩, E⟩
           exact ⟨E, A3, c3, rfl, (RowK.own hV_len (by decide) ho3).2⟩
         refine ⟨?_, ?_⟩
         · rintro - w45 D45
           rintro v45_46 ⟨A46, c46, rfl, hr46⟩
           show OpOK _ _ _ _ _ _ _
           exact ok_val (ro_assign rfl) From.rfl_ ⟨_, _, rfl, hr46⟩
         exact trivial
        case hend =>
         intro w46 D46
         rintro _ rfl _ rfl _ rfl _ rfl _ rfl _ rfl v45 rfl v46 ⟨A46, c46, rfl, hr46⟩ v7 ⟨A46, c46, rfl, hr46⟩
         show St _ _ _ _ _ _ _
         refine st_nil ?_
         refine nx_cut ((A46, c46)) ⟨(by unfold segH; rw [if_pos hqE]; rfl), trivial⟩ (by (iterate 11 refine agr_cons rfl ?_); exact agr_rfl) ?_
         exact ⟨by unfold segH; rw [if_pos hqE]; exact hr46, hsg.from_ ((From.rfl_.next E36).next D46), hP1.from_ ((From.rfl_.next E36).next D46), ((hB.next E36).next D46)⟩
      with_reducible replace Q35 := of_decide_eq_false Q35
      have hqE : ¬ patE q = 0 := by simpa using Q35
      refine cd_skip ?_
      refine nx_cut ((none, 0)) ⟨(by unfold segH; rw [if_neg hqE]; rfl), trivial⟩ (by (iterate 2 refine agr_cons rfl ?_); exact agr_rfl) ?_
      exact ⟨by unfold segH; rw [if_neg hqE]; exact fun h => absurd h (by simp), hsg.from_ (From.rfl_.next E36), hP1.from_ (From.rfl_.next E36), (hB.next E36)⟩
    rintro ⟨A7, c7⟩ ρ47 w47 ⟨hr7, hsg, hP1, hB⟩
    refine cd_seq (cd_region ?_)
    refine mvp rfl ?_
    refine st_val (ro_fieldAddr SegLawS_f25_1 rfl) ?_
    refine st_val (ro_load SegLawS_g23 rfl (by first | (first | exact (hP1.from_ From.rfl_).whole | exact (hP1.from_ From.rfl_).rd 0 rfl | exact (hP1.from_ From.rfl_).rd 1 rfl | exact (hP1.from_ From.rfl_).rd 2 rfl) | (first | exact (hk1.from_ From.rfl_).whole | exact (hk1.from_ From.rfl_).rd 0 rfl | exact (hk1.from_ From.rfl_).rd 1 rfl | exact (hk1.from_ From.rfl_).rd 2 rfl))) ?_
    refine mvi rfl ?_
    refine st_val (ro_indexAddr1 SegLawS_e23 rfl rfl (by omega)) ?_
    refine st_val (ro_load SegLawS_g9 rfl (by exact cellF hB hce)) ?_
    have hz54 := (hB).size
    refine st_call SegLawS_k12 (search_rt _ s ds _ (hsg.from_ From.rfl_) q hsmP) ?_
    rintro v54 w48 ⟨⟨A54, c54, rfl, ho54⟩, E54⟩
    have hs54 := E54.size
    have hhl := segH_len (ds := ds) (p := q)
    refine mvt rfl ?_
    refine st_val (ro_extract rfl rfl) ?_
    refine st_val (ro_extract rfl rfl) ?_
    refine ass rfl ?_
    refine asi rfl ?_
    refine st_nil (nx_then (cd_seq (cd_seq (cd_region ?_))))
    refine mvi rfl ?_
    refine st_call SegLawS_k13 (num_any _ _) ?_
    rintro v58 w49 ⟨rfl, rfl⟩
    refine mvi rfl ?_
    refine st_val (ro_bf (ro_neq rfl rfl) (bne_self_eq_false _)) ?_
    refine mvb rfl ?_
    refine st_unguard rfl ?_
    refine mvs rfl ?_
    refine st_unguard rfl ?_
    refine mvs rfl ?_
    refine st_unguard rfl ?_
    refine st_call SegLawS_k14 (eqHits_rt A54 A7 c54 c7 (segH ds q).length (segH ds q).length (segH ds q) (segH ds q) _ ((RowK.own hV_len (by decide) ho54).2.from_ From.rfl_) (hr7.from_ (From.rfl_.next E54)) rfl rfl (by omega)) ?_
    rintro v64 w50 ⟨rfl, E64⟩
    refine st_unguard rfl ?_
    refine st_val (ro_bf (ro_not rfl) (by rw [decide_eq_true rfl]; rfl)) ?_
    refine st_val (ro_pickF (v := .bool _) rfl rfl) ?_
    refine st_nil (nx_then ?_)
    refine cd_condF rfl ?_
    refine cd_skip (nx_then (cd_region ?_))
    refine mvs rfl ?_
    have hM68 := ((From.rfl_.next E54).next E64)
    refine st_call SegLawS_k15 (spoilHits_rt _ A54 c54 (segH ds q).length (segH ds q) _ (ho54.kept_from E64) (by omega) (Nat.le_trans hs54 E64.size)) ?_
    rintro v68 w51 hg68
    have E68 := hM68.grew hg68 (fun k hk => (own_at ho54 k hk).1)
    replace hsg := hsg.from_ E68
    replace hP1 := hP1.from_ E68
    refine st_nil (nx_block (nx_then (cd_region ?_)))
    refine mvi rfl ?_
    refine st_val (ro_add64 rfl rfl (by omega)) ?_
    refine asi rfl ?_
    refine st_nil ?_
    refine nx_cut (i + 1) ⟨(by first | rfl | (refine int_eq ?_; omega)), trivial⟩ (by (iterate 102 refine agr_cons rfl ?_); exact agr_rfl) ⟨?_, ?_⟩
    · exact ⟨by omega, hsg.from_ From.rfl_, hP1.from_ From.rfl_, ((((hB.next E54).next E64)).grew hg68 (fun k hk => Nat.le_trans hz54 (own_at ho54 k hk).1))⟩
    · show ps.length - (i + 1) < ps.length - i; omega
  with_reducible replace Q33 := of_decide_eq_false Q33
  refine cd_exit ?_
  refine ex_then (ex_then (ex_block (nx_then (cd_seq (cd_region ?_)))))
  refine st_call SegLawS_k9 (wakes_rt _) ?_
  rintro v69 w52 ⟨rfl, E69⟩
  refine asb rfl ?_
  refine st_nil (nx_then (cd_ret ?_))
  refine res1 (v := .bool _) rfl rfl ?_
  exact ⟨rfl, (hB.next E69)⟩
theorem searches_arg (cs : Array Value) (x : (Ty.pr (Ty.sl docT) (.pr (.sl .str) (.pr (.sl .str) .unit))).den) (w : World) (hs : cs.size = 3) (h : (Ty.pr (Ty.sl docT) (.pr (.sl .str) (.pr (.sl .str) .unit))).At w (fun j => cs[j]?) x) :
    Rt Try.prog 3 [.agg cs] w fun v w' => v = .bool true ∧ From w w' := by
  obtain ⟨A, B, C, ca, cb, cc, ds, ps, ns, rfl, ha, hcap⟩ := ask_of8 hs h
  exact searches_law A B C ca cb cc ds ps ns w ha
theorem SegmentSearches_lifted (os : Os) (started : os.Started) (H : Type) (enc : TypeId × Value → H) :
    ReturnsInHanded {} Try.checked os 3 .any (Rows.segmentSearchesSpec.pre6 enc Try.prog Try.f3 Rows.segmentSearchesRow.domain false) (Rows.segmentSearchesSpec.post enc Try.prog Try.f3 false true false false) := by
  refine returnsInHanded_of_change_sized (C := Try.checked) Try.own started (by kernel_rfl) Try.func3
    (ChangeSpec.witness6 (enc := enc) (C := Try.checked) false ⟨#[], #[.agg #[.slice none 0 0, .slice none 0 0, .slice none 0 0]], []⟩ 8 (by kernel_rfl) (by kernel_rfl) (by kernel_rfl) (by kernel_rfl)) ?_
  intro W base args ds gs before hval hW _ hsz _
  exact law_step 3 Try.f3 25 4 Rows.segmentSearchesSpec Try.params3 (by kernel_rfl) Try.underlying4 rfl (fun _ => rfl) (by kernel_rfl) (of_decide_eq_true (by kernel_rfl)) (walk_struct (Ty.sl docT) (.pr (.sl .str) (.pr (.sl .str) .unit)) (by kernel_rfl) searches_arg) W base args ds gs before hval hW hsz

theorem SegmentSearches_holds : Rows.SegmentSearchesSaid :=
  OpenClaim.holds_of_wide 3 Try.f3 rfl rfl rfl rfl rfl rfl rfl ⟨rfl, rfl, rfl, rfl, rfl⟩ rfl rfl rfl rfl rfl (by kernel_rfl) Try.func3 (by kernel_rfl)
    (of_decide_eq_true (by kernel_rfl)) (by unfold Func.isWrapper; first | (rw [if_pos (by decide +kernel)]; kernel_rfl) | (rw [if_neg (by decide +kernel)]; exact ⟨rfl, rfl⟩))
    (fun os started H enc _ => SegmentSearches_lifted os started H enc)
#print axioms SegmentSearches_holds

end Go.Proofs.Ytllmocjfllbbfaa

namespace Go.Proofs.Ytllmocjfllbbfaa
open Go.RowKit
open Go.ChangeShapes Go.WideShapes Go.ChangeAt
open Go.Proofs.Ytllmocjfllbbfaa.SA
theorem pls_one (c : Nat) : ∀ L : List Nat, (pls L [c]).length = L.count c
  | [] => rfl
  | x :: L => by
    have ih := pls_one c L
    unfold pls at ih ⊢
    have e : ((fun i => [c].isPrefixOf (List.drop i (x :: L))) ∘ Nat.succ) = fun i => [c].isPrefixOf (L.drop i) := rfl
    have e0 : [c].isPrefixOf (List.drop 0 (x :: L)) = (c == x) := by simp [List.isPrefixOf]
    rw [List.length_cons, List.range_succ_eq_map, List.filter_cons, List.filter_map, List.count_cons, e, e0]
    by_cases h : x = c
    · subst h
      simp [ih]
    · have h1 : (c == x) = false := by simpa using fun k => h k.symm
      have h2 : (x == c) = false := by simpa using h
      rw [h1, h2]
      simp [ih]
theorem fnd_cnt (c : Nat) (L : List Nat) : (fndL L [c]).length = L.count c := by rw [fnd_pls, pls_one]
theorem syms_sep : ∀ ds : List Dc, (syms ds).count 0 = ds.length
  | [] => rfl
  | d :: ds => by
    rw [syms, List.count_append, List.count_cons, syms_sep ds, List.count_eq_zero.2 (txt_pos d.2)]
    simp
theorem text_s (base x a n : Nat) (B F : List Nat) (ds : List Dc) (w : World) (hf : FmAt w base x 257 a (syms ds) B F) (hn : n = (syms ds).length) (hl : n ≤ 1000000) : Rt Try.prog 17 [.pointer (some ⟨x, 0, none⟩), .int .i64 0, .int .i64 (n : Nat)] w fun v w' => (∃ A' c', v = .tuple #[.slice A' (syms ds).length c', .int .i64 0] ∧ RowOf iV w' A' (cI (syms ds))) ∧ From w w' := by
  subst hn
  refine (text_d base x 257 a (syms ds) B F w hf (cI (syms ds)) rfl 0 ((syms ds).length : Nat) (by omega)).mono fun v w' h => ?_
  have e : (cI (syms ds)).length = (syms ds).length := List.length_map _
  obtain ⟨h, hF⟩ := h
  rcases h with ⟨h, _⟩ | ⟨_, _, _, A', c', rfl, hr⟩
  · omega
  · refine ⟨⟨A', c', rfl, ?_⟩, hF⟩
    simp only [Int.toNat_zero, Int.toNat_natCast, List.drop_zero, Nat.zero_add, Nat.sub_zero] at hr
    rwa [List.take_of_length_le (by omega)] at hr
theorem rowI1 {w : World} {g : Nat} {x : Int} (h : Blk w g 3 #[.int .i64 x]) : RowOf iV w (some ⟨g, 0, none⟩) [x] := fun _ => ⟨g, 0, rfl, fun i hi => by
  match i, hi with
  | 0, _ => exact h.rd 0 rfl⟩
theorem find_0 (base x a g : Nat) (B F : List Nat) (ds : List Dc) (w : World) (hf : FmAt w base x 257 a (syms ds) B F) (h : Blk w g 3 #[.int .i64 0]) : Rt Try.prog 21 [.pointer (some ⟨x, 0, none⟩), .slice (some ⟨g, 0, none⟩) 1 1] w fun v w' => (∃ A' c', v = .tuple #[.slice A' ds.length c', .int .i64 0]) ∧ From w w' := by
  refine (find_p base x 257 a 1 1 (syms ds) B F (some ⟨g, 0, none⟩) [0] w hf (rowI1 h) rfl (by omega) (by simp) (fun x hx => by rw [List.mem_singleton] at hx; omega)).mono fun v w' h => ?_
  obtain ⟨⟨A', c', rfl, _⟩, hF⟩ := h
  rw [fnd_cnt, syms_sep]
  exact ⟨⟨A', c', rfl⟩, hF⟩
theorem SegAt.all {w : World} {base s : Nat} {ds : List Dc} (h : SegAt w base s ds) : ∃ (x a tb : Nat) (B F : List Nat) (c : Array Value) (c2 : Array Value), Blk w s 47 c ∧ c[0]? = some (.pointer (some ⟨x, 0, none⟩)) ∧ FmAt w base x 257 a (syms ds) B F ∧ Blk w x 54 c2 ∧ c2[0]? = some (.pointer (some ⟨tb, 0, none⟩)) ∧ TreeAt w base tb 257 B ∧ B.length = (syms ds).length := by
  obtain ⟨h0, x, bd, a, B, F, A, c, h1, h2, h3, h4, h5⟩ := h
  have hf := h2
  obtain ⟨hb0, hSA, hbw, hLn, hK, tb, AS, cs, gr, hI, hT, _⟩ := h2
  exact ⟨x, a, tb, B, F, _, _, h1, rfl, hf, hI, rfl, hT, hbw.len⟩
end Go.Proofs.Ytllmocjfllbbfaa

namespace Go.Proofs.Ytllmocjfllbbfaa
open Go.RowKit
open Go.ChangeShapes Go.WideShapes Go.ChangeAt
open Go.Proofs.Ytllmocjfllbbfaa.SA
theorem SegLawI_g25 : aggQ Try.prog 25 = some true := by kernel_rfl
theorem SegLawI_z25 : sizeQ Try.prog 25 = some 3 := by kernel_rfl
theorem SegLawI_k7 : callable Try.prog 7 = true := by kernel_rfl
theorem SegLawI_k8 : callable Try.prog 8 = true := by kernel_rfl
theorem SegLawI_p27 : Try.prog.underlying 27 = some (.pointer (Try.prog.pointee 27)) := by kernel_rfl
theorem SegLawI_k9 : callable Try.prog 9 = true := by kernel_rfl
theorem SegLawI_f25_0 : fieldQ Try.prog 25 0 = some 0 := by kernel_rfl
theorem SegLawI_g22 : aggQ Try.prog 22 = some false := by kernel_rfl
theorem SegLawI_k16 : callable Try.prog 16 = true := by kernel_rfl
theorem SegLawI_f47_0 : fieldQ Try.prog 47 0 = some 0 := by kernel_rfl
theorem SegLawI_g44 : aggQ Try.prog 44 = some false := by kernel_rfl
theorem SegLawI_l40 : (elemQ Try.prog 40).isSome = true := by kernel_rfl
theorem SegLawI_k17 : callable Try.prog 17 = true := by kernel_rfl
theorem SegLawI_k13 : callable Try.prog 13 = true := by kernel_rfl
theorem SegLawI_k18 : callable Try.prog 18 = true := by kernel_rfl
theorem SegLawI_f54_0 : fieldQ Try.prog 54 0 = some 0 := by kernel_rfl
theorem SegLawI_g50 : aggQ Try.prog 50 = some false := by kernel_rfl
theorem SegLawI_k19 : callable Try.prog 19 = true := by kernel_rfl
theorem SegLawI_k20 : callable Try.prog 20 = true := by kernel_rfl
theorem SegLawI_l22 : (elemQ Try.prog 22).isSome = true := by kernel_rfl
theorem SegLawI_q40 : litQ Try.prog 40 = some (3, 1, 8, (.int .i64 0)) := by kernel_rfl
theorem SegLawI_k21 : callable Try.prog 21 = true := by kernel_rfl
theorem SegLawI_f25_1 : fieldQ Try.prog 25 1 = some 1 := by kernel_rfl
theorem SegLawI_g23 : aggQ Try.prog 23 = some false := by kernel_rfl
theorem SegLawI_l23 : (elemQ Try.prog 23).isSome = true := by kernel_rfl
theorem SegLawI_e23 : elemQ Try.prog 23 = some (9, 1) := by kernel_rfl
theorem SegLawI_g9 : aggQ Try.prog 9 = some false := by kernel_rfl
theorem SegLawI_k22 : callable Try.prog 22 = true := by kernel_rfl
theorem SegLawI_k23 : callable Try.prog 23 = true := by kernel_rfl
set_option maxHeartbeats 3000000 in
theorem index_law (A B C : Option Addr) (ca cb cc : Nat) (ds : List Dc) (ps ns : List ByteArray) (w : World) (ha : AskS w A B C ca ds ps ns) :
    Rt Try.prog 4 [.agg #[.slice A ds.length ca, .slice B ps.length cb, .slice C ns.length cc]] w (fun v w' => v = .bool true ∧ From w w') := by
  have hlenP := ha.lenP
  refine enter (n := 147) Try.func4 rfl rfl rfl ?_
  refine cd_seq (cd_region ?_)
  refine st_box (v := .agg _) rfl ?_
  intro b1 w1 E1 hb1 hk1
  refine asb rfl ?_
  refine st_nil (nx_then (cd_seq (cd_seq (cd_region ?_))))
  refine st_val (ro_loadA (cs := [_, _, _]) SegLawI_g25 SegLawI_z25 rfl (by first | (first | exact (hP1.from_ From.rfl_).whole | exact (hP1.from_ From.rfl_).rd 0 rfl | exact (hP1.from_ From.rfl_).rd 1 rfl | exact (hP1.from_ From.rfl_).rd 2 rfl) | (first | exact (hk1.from_ From.rfl_).whole | exact (hk1.from_ From.rfl_).rd 0 rfl | exact (hk1.from_ From.rfl_).rd 1 rfl | exact (hk1.from_ From.rfl_).rd 2 rfl))) ?_
  refine st_call SegLawI_k7 (heavy_rt A B C ca cb cc ds ps ns _ (ha.from_ (From.rfl_.next E1))) ?_
  rintro v15 w2 ⟨⟨hv, rfl, hli⟩, E15⟩
  refine st_nil (nx_then ?_)
  refine cd_cond rfl (fun Q3 => ?_) (fun Q3 => ?_)
  · refine cd_seq (cd_region ?_)
    refine asb rfl ?_
    refine st_nil (nx_then (cd_ret (rt_then ?_)))
    refine res1 (v := .bool _) rfl rfl ?_
    exact ⟨rfl, ((From.rfl_.next E1).next E15)⟩
  obtain ⟨hl1, hl2, hl3⟩ := hli (by simpa using Q3)
  refine cd_skip (nx_then (cd_seq (cd_region ?_)))
  refine st_val (ro_loadA (cs := [_, _, _]) SegLawI_g25 SegLawI_z25 rfl (by first | (first | exact (hP1.from_ (From.rfl_.next E15)).whole | exact (hP1.from_ (From.rfl_.next E15)).rd 0 rfl | exact (hP1.from_ (From.rfl_.next E15)).rd 1 rfl | exact (hP1.from_ (From.rfl_.next E15)).rd 2 rfl) | (first | exact (hk1.from_ (From.rfl_.next E15)).whole | exact (hk1.from_ (From.rfl_.next E15)).rd 0 rfl | exact (hk1.from_ (From.rfl_.next E15)).rd 1 rfl | exact (hk1.from_ (From.rfl_.next E15)).rd 2 rfl))) ?_
  have hz18 := (((From.rfl_.next E1).next E15)).size
  refine st_call SegLawI_k8 (made_rt A B C ca cb cc ds ps ns _ (ha.from_ ((From.rfl_.next E1).next E15)) hl1) ?_
  rintro v18 w4 ⟨hs18, E18⟩
  replace hk1 := hk1.from_ ((From.rfl_.next E15).next E18)
  rcases hs18 with ⟨hck, rfl⟩ | ⟨hck, s, rfl, hsg⟩
  · have hb33 : (docE ds != 0) = true := by simpa using hck
    refine mvt rfl ?_
    refine st_val (ro_extract rfl rfl) ?_
    refine st_val (ro_extract rfl rfl) ?_
    refine asp rfl ?_
    refine asi rfl ?_
    refine st_nil (nx_then (cd_seq (cd_seq (cd_region ?_))))
    refine mvp rfl ?_
    refine st_val (ro_eqlNil SegLawI_p27 rfl rfl) ?_
    refine st_nil (nx_then ?_)
    refine cd_cond rfl (fun Q5 => ?_) (fun Q5 => ?_)
    rotate_left
    · exfalso; contradiction
    refine cd_seq (cd_region ?_)
    refine mvi rfl ?_
    refine st_val (ro_neq rfl rfl) ?_
    refine mvb rfl ?_
    refine st_split (t := 25) rfl (fun Q27 => ?_) (fun Q27 => ?_)
    rotate_left
    · with_reducible replace Q27 := bx_f Q27
      exfalso; omega
    with_reducible replace Q27 := bx_t Q27
    refine st_unguard rfl ?_
    refine st_call SegLawI_k9 (wakes_rt _) ?_
    rintro v26 w28 ⟨rfl, E26⟩
    refine st_val (ro_pickT (v := .bool _) rfl rfl) ?_
    refine asb rfl ?_
    refine st_nil (nx_then (cd_ret (rt_then ?_)))
    refine res1 (v := .bool _) rfl rfl ?_
    exact ⟨rfl, ((((From.rfl_.next E1).next E15).next E18).next E26)⟩
  replace hsg := hsg.le hz18
  obtain ⟨hord, hfit⟩ := hsg.docs
  have hf1 := hfit.1
  have hf3 := hfit.2.2
  have hsl := syms_len ds
  obtain ⟨x, a, tb, Bs, F, cS, cX, hS, hS0, hf, hX, hX0, hT, hBl⟩ := hsg.all
  refine mvt rfl ?_
  refine st_val (ro_extract rfl rfl) ?_
  refine st_val (ro_extract rfl rfl) ?_
  refine asp rfl ?_
  refine asi rfl ?_
  refine st_nil (nx_then (cd_seq (cd_seq (cd_region ?_))))
  refine mvp rfl ?_
  refine st_val (ro_eqlNil SegLawI_p27 rfl rfl) ?_
  refine st_nil (nx_then ?_)
  refine cd_cond rfl (fun Q29 => ?_) (fun Q29 => ?_)
  · exfalso; contradiction
  refine cd_skip (nx_then (cd_seq (cd_region ?_)))
  refine st_val (ro_fieldAddr SegLawI_f25_0 rfl) ?_
  refine st_val (ro_load SegLawI_g22 rfl (by first | (first | exact (hP1.from_ From.rfl_).whole | exact (hP1.from_ From.rfl_).rd 0 rfl | exact (hP1.from_ From.rfl_).rd 1 rfl | exact (hP1.from_ From.rfl_).rd 2 rfl) | (first | exact (hk1.from_ From.rfl_).whole | exact (hk1.from_ From.rfl_).rd 0 rfl | exact (hk1.from_ From.rfl_).rd 1 rfl | exact (hk1.from_ From.rfl_).rd 2 rfl))) ?_
  refine st_call SegLawI_k16 (refSymbols_rt A ca ds.length ds _ (ha.row.from_ (((From.rfl_.next E1).next E15).next E18)) rfl (by omega) (by omega)) ?_
  rintro v30 w32 ⟨⟨A30, c30, rfl, hr30⟩, E30⟩
  replace hS := hS.from_ E30
  replace hf := hf.from_ E30
  replace hX := hX.from_ E30
  replace hT := hT.from_ E30
  replace hk1 := hk1.from_ E30
  obtain ⟨W2, hW2⟩ : ∃ W, W = w32 := ⟨_, rfl⟩
  have hB2 : From w W2 := by rw [hW2]; exact ((((From.rfl_.next E1).next E15).next E18).next E30)
  have hS2 := hS
  have hf2 := hf
  rw [← hW2] at hS2 hf2
  refine ass rfl ?_
  refine st_nil (nx_then (cd_seq (cd_region ?_)))
  refine mvp rfl ?_
  refine st_val (ro_nilCheck rfl) ?_
  refine st_val (ro_fieldAddr SegLawI_f47_0 rfl) ?_
  refine st_val (ro_load SegLawI_g44 rfl (by exact (hS.from_ From.rfl_).rd 0 hS0)) ?_
  refine mvs rfl ?_
  refine st_val (ro_len SegLawI_l40 rfl) ?_
  refine st_call SegLawI_k17 (text_s _ x a (syms ds).length Bs F ds _ (hf.from_ From.rfl_) rfl (by omega)) ?_
  rintro v38 w33 ⟨⟨A38, c38, rfl, hr38⟩, E38⟩
  refine mvt rfl ?_
  refine st_val (ro_extract rfl rfl) ?_
  refine st_val (ro_extract rfl rfl) ?_
  refine ass rfl ?_
  refine asi rfl ?_
  refine st_nil (nx_then (cd_seq (cd_seq (cd_region ?_))))
  refine mvi rfl ?_
  refine st_call SegLawI_k13 (num_any _ _) ?_
  rintro v42 w34 ⟨rfl, rfl⟩
  refine st_val (ro_bf (ro_neq rfl rfl) (bne_self_eq_false _)) ?_
  refine mvb rfl ?_
  refine st_unguard rfl ?_
  refine mvs rfl ?_
  refine st_unguard rfl ?_
  refine mvs rfl ?_
  refine st_unguard rfl ?_
  refine st_call SegLawI_k18 (eq_same A38 A30 c38 c30 (syms ds).length (syms ds).length (cI (syms ds)) _ (hr38.from_ From.rfl_) (hr30.from_ E38) (by rw [List.length_map]) (by rw [List.length_map]) (by omega)) ?_
  rintro v47 w35 ⟨rfl, E47⟩
  refine st_unguard rfl ?_
  refine st_val (ro_bf (ro_not rfl) rfl) ?_
  refine st_val (ro_pickF (v := .bool _) rfl rfl) ?_
  refine mvb rfl ?_
  refine st_unguard rfl ?_
  refine mvp rfl ?_
  refine st_unguard rfl ?_
  refine st_val (ro_nilCheck rfl) ?_
  refine st_unguard rfl ?_
  refine st_val (ro_fieldAddr SegLawI_f47_0 rfl) ?_
  refine st_unguard rfl ?_
  refine st_val (ro_load SegLawI_g44 rfl (by exact (hS.from_ ((From.rfl_.next E38).next E47)).rd 0 hS0)) ?_
  refine st_unguard rfl ?_
  refine st_val (ro_nilCheck rfl) ?_
  refine st_unguard rfl ?_
  refine st_val (ro_fieldAddr SegLawI_f54_0 rfl) ?_
  refine st_unguard rfl ?_
  refine st_val (ro_load SegLawI_g50 rfl (by exact (hX.from_ ((From.rfl_.next E38).next E47)).rd 0 hX0)) ?_
  refine st_unguard rfl ?_
  refine st_call SegLawI_k19 (lenT _ tb 257 Bs _ (hT.from_ ((From.rfl_.next E38).next E47))) ?_
  rintro v58 w36 ⟨rfl, E58⟩
  refine st_unguard rfl ?_
  refine mvs rfl ?_
  refine st_unguard rfl ?_
  refine st_val (ro_len SegLawI_l40 rfl) ?_
  refine st_unguard rfl ?_
  refine st_val (ro_bf (ro_neq rfl rfl) (by rw [hBl]; exact bne_self_eq_false _)) ?_
  refine st_val (ro_pickF (v := .bool _) rfl rfl) ?_
  refine mvb rfl ?_
  refine st_unguard rfl ?_
  refine mvp rfl ?_
  refine st_unguard rfl ?_
  refine st_val (ro_nilCheck rfl) ?_
  refine st_unguard rfl ?_
  refine st_val (ro_fieldAddr SegLawI_f47_0 rfl) ?_
  refine st_unguard rfl ?_
  refine st_val (ro_load SegLawI_g44 rfl (by exact (hS.from_ (((From.rfl_.next E38).next E47).next E58)).rd 0 hS0)) ?_
  refine st_unguard rfl ?_
  refine st_val (ro_nilCheck rfl) ?_
  refine st_unguard rfl ?_
  refine st_val (ro_fieldAddr SegLawI_f54_0 rfl) ?_
  refine st_unguard rfl ?_
  refine st_val (ro_load SegLawI_g50 rfl (by exact (hX.from_ (((From.rfl_.next E38).next E47).next E58)).rd 0 hX0)) ?_
  refine st_unguard rfl ?_
  refine st_call SegLawI_k20 (kindsT _ tb 257 Bs _ (hT.from_ (((From.rfl_.next E38).next E47).next E58))) ?_
  rintro v71 w37 ⟨rfl, rfl⟩
  refine st_unguard rfl ?_
  refine st_val (ro_bf (ro_neq rfl rfl) rfl) ?_
  refine st_val (ro_pickF (v := .bool _) rfl rfl) ?_
  refine st_nil (nx_then ?_)
  refine cd_condF rfl ?_
  refine cd_skip (nx_then ?_)
  refine cd_cut (G := Unit) [2, 8, 9, 74, 75, 76, 77, 78, 79, 80, 81, 82, 83, 84, 85, 86, 87, 88, 89, 90, 91, 92, 93, 94, 95, 96, 97] (fun _ => []) (fun _ w' => RowOf iV w' A30 (cI (syms ds)) ∧ Blk w' b1 25 #[.slice A ds.length ca, .slice B ps.length cb, .slice C ns.length cc] ∧ From W2 w') ?_ ?_
  · refine cd_seq (cd_region ?_)
    refine st_val (ro_fieldAddr SegLawI_f25_0 rfl) ?_
    refine st_val (ro_load SegLawI_g22 rfl (by first | (first | exact (hP1.from_ (((From.rfl_.next E38).next E47).next E58)).whole | exact (hP1.from_ (((From.rfl_.next E38).next E47).next E58)).rd 0 rfl | exact (hP1.from_ (((From.rfl_.next E38).next E47).next E58)).rd 1 rfl | exact (hP1.from_ (((From.rfl_.next E38).next E47).next E58)).rd 2 rfl) | (first | exact (hk1.from_ (((From.rfl_.next E38).next E47).next E58)).whole | exact (hk1.from_ (((From.rfl_.next E38).next E47).next E58)).rd 0 rfl | exact (hk1.from_ (((From.rfl_.next E38).next E47).next E58)).rd 1 rfl | exact (hk1.from_ (((From.rfl_.next E38).next E47).next E58)).rd 2 rfl))) ?_
    refine st_val (ro_len SegLawI_l22 rfl) ?_
    refine st_val (ro_gtr rfl rfl) ?_
    refine st_nil (nx_then ?_)
    refine cd_cond rfl (fun Q38 => ?_) (fun Q38 => ?_)
    · with_reducible replace Q38 := of_decide_eq_true Q38
      refine cd_seq (cd_region ?_)
      refine mvp rfl ?_
      refine st_val (ro_nilCheck rfl) ?_
      refine st_val (ro_fieldAddr SegLawI_f47_0 rfl) ?_
      refine st_val (ro_load SegLawI_g44 rfl (by exact (hS.from_ (((From.rfl_.next E38).next E47).next E58)).rd 0 hS0)) ?_
      refine st_lit1 (v := .int _ _) SegLawI_q40 rfl rfl rfl ?_
      intro b83 w39 E83 hb83 hk83
      refine st_call SegLawI_k21 (find_0 _ x a b83 Bs F ds _ (hf.from_ ((((From.rfl_.next E38).next E47).next E58).next E83)) hk83) ?_
      rintro v84 w40 ⟨⟨A84, c84, rfl⟩, E84⟩
      refine mvt rfl ?_
      refine st_val (ro_extract rfl rfl) ?_
      refine st_val (ro_extract rfl rfl) ?_
      refine ass rfl ?_
      refine asi rfl ?_
      refine st_nil (nx_then (cd_seq (cd_region ?_)))
      refine mvi rfl ?_
      refine st_call SegLawI_k13 (num_any _ _) ?_
      rintro v88 w41 ⟨rfl, rfl⟩
      refine st_val (ro_bf (ro_neq rfl rfl) (bne_self_eq_false _)) ?_
      refine mvb rfl ?_
      refine st_unguard rfl ?_
      refine mvs rfl ?_
      refine st_unguard rfl ?_
      refine st_val (ro_len SegLawI_l40 rfl) ?_
      refine st_unguard rfl ?_
      refine st_val (ro_fieldAddr SegLawI_f25_0 rfl) ?_
      refine st_unguard rfl ?_
      refine st_val (ro_load SegLawI_g22 rfl (by first | (first | exact (hP1.from_ (((((From.rfl_.next E38).next E47).next E58).next E83).next E84)).whole | exact (hP1.from_ (((((From.rfl_.next E38).next E47).next E58).next E83).next E84)).rd 0 rfl | exact (hP1.from_ (((((From.rfl_.next E38).next E47).next E58).next E83).next E84)).rd 1 rfl | exact (hP1.from_ (((((From.rfl_.next E38).next E47).next E58).next E83).next E84)).rd 2 rfl) | (first | exact (hk1.from_ (((((From.rfl_.next E38).next E47).next E58).next E83).next E84)).whole | exact (hk1.from_ (((((From.rfl_.next E38).next E47).next E58).next E83).next E84)).rd 0 rfl | exact (hk1.from_ (((((From.rfl_.next E38).next E47).next E58).next E83).next E84)).rd 1 rfl | exact (hk1.from_ (((((From.rfl_.next E38).next E47).next E58).next E83).next E84)).rd 2 rfl))) ?_
      refine st_unguard rfl ?_
      refine st_val (ro_len SegLawI_l22 rfl) ?_
      refine st_unguard rfl ?_
      refine st_val (ro_bf (ro_neq rfl rfl) (bne_self_eq_false _)) ?_
      refine st_val (ro_pickF (v := .bool _) rfl rfl) ?_
      refine st_nil (nx_then ?_)
      refine cd_condF rfl ?_
      refine cd_skip ?_
      refine nx_cut (()) trivial (by (iterate 26 refine agr_cons rfl ?_); exact agr_rfl) ?_
      exact ⟨hr30.from_ (((((From.rfl_.next E38).next E47).next E58).next E83).next E84), hk1.from_ (((((From.rfl_.next E38).next E47).next E58).next E83).next E84), by rw [hW2]; exact (((((From.rfl_.next E38).next E47).next E58).next E83).next E84)⟩
    with_reducible replace Q38 := of_decide_eq_false Q38
    refine cd_skip ?_
    refine nx_cut (()) trivial (by (iterate 4 refine agr_cons rfl ?_); exact agr_rfl) ?_
    exact ⟨hr30.from_ (((From.rfl_.next E38).next E47).next E58), hk1.from_ (((From.rfl_.next E38).next E47).next E58), by rw [hW2]; exact (((From.rfl_.next E38).next E47).next E58)⟩
  rintro _ ρ42 w42 ⟨hr30, hk1, hBz⟩
  refine cd_seq (cd_seq (cd_region ?_))
  refine asi rfl ?_
  refine st_nil (nx_then (cd_block ?_))
  refine cd_loop (G := Nat) [2, 11, 12, 13, 98, 99, 100, 101, 102, 103, 104, 105, 106, 107, 108, 109, 110, 111, 112, 113, 114, 115, 116, 117, 118, 119, 120, 121, 122, 123, 124, 125, 126, 127, 128, 129, 130, 131, 132, 133, 134, 135, 136, 137, 138, 139, 140, 141, 142, 143, 144, 145] (fun i => [(10, .int .i64 (i : Nat))]) (fun i w' => i ≤ ps.length ∧ RowOf iV w' A30 (cI (syms ds)) ∧ Blk w' b1 25 #[.slice A ds.length ca, .slice B ps.length cb, .slice C ns.length cc] ∧ From W2 w') (fun i => ps.length - i) (0) ⟨rfl, trivial⟩ ?_ ?_
  · exact ⟨Nat.zero_le _, hr30.from_ From.rfl_, hk1.from_ From.rfl_, hBz.next From.rfl_⟩
  rintro i ρ43 w43 ⟨hi, hr30, hP1, hBz⟩
  refine cd_seq (cd_seq (cd_region ?_))
  refine mvi rfl ?_
  refine st_val (ro_fieldAddr SegLawI_f25_1 rfl) ?_
  refine st_val (ro_load SegLawI_g23 rfl (by first | (first | exact (hP1.from_ From.rfl_).whole | exact (hP1.from_ From.rfl_).rd 0 rfl | exact (hP1.from_ From.rfl_).rd 1 rfl | exact (hP1.from_ From.rfl_).rd 2 rfl) | (first | exact (hk1.from_ From.rfl_).whole | exact (hk1.from_ From.rfl_).rd 0 rfl | exact (hk1.from_ From.rfl_).rd 1 rfl | exact (hk1.from_ From.rfl_).rd 2 rfl))) ?_
  refine st_val (ro_len SegLawI_l23 rfl) ?_
  refine st_val (ro_lss rfl rfl) ?_
  refine st_nil (nx_then ?_)
  refine cd_cond rfl (fun Q44 => ?_) (fun Q44 => ?_)
  · with_reducible replace Q44 := of_decide_eq_true Q44
    obtain ⟨bD, oD, rfl, hcD⟩ := ha.rowP (by omega)
    have hce := hcD i (by omega)
    have hsmP : (ps[i]).size ≤ 140737488351232 := ha.smP _ (List.getElem_mem (by omega))
    obtain ⟨q, hq⟩ : ∃ q, q = ps[i] := ⟨_, rfl⟩
    rw [← hq] at hce hsmP
    refine cd_skip (nx_then (cd_seq (cd_block (cd_seq (cd_seq (cd_region ?_))))))
    refine st_val (ro_fieldAddr SegLawI_f25_1 rfl) ?_
    refine st_val (ro_load SegLawI_g23 rfl (by first | (first | exact (hP1.from_ From.rfl_).whole | exact (hP1.from_ From.rfl_).rd 0 rfl | exact (hP1.from_ From.rfl_).rd 1 rfl | exact (hP1.from_ From.rfl_).rd 2 rfl) | (first | exact (hk1.from_ From.rfl_).whole | exact (hk1.from_ From.rfl_).rd 0 rfl | exact (hk1.from_ From.rfl_).rd 1 rfl | exact (hk1.from_ From.rfl_).rd 2 rfl))) ?_
    refine mvi rfl ?_
    refine st_val (ro_indexAddr1 SegLawI_e23 rfl rfl (by omega)) ?_
    refine st_val (ro_load SegLawI_g9 rfl (by exact cellF (hB2.next hBz) hce)) ?_
    refine st_val (ro_eqlS rfl rfl) ?_
    refine mvb rfl ?_
    refine st_split (t := 111) rfl (fun Q45 => ?_) (fun Q45 => ?_)
    · with_reducible replace Q45 := be_t Q45
      refine st_gno rfl rfl ?_
      refine st_gno rfl rfl ?_
      refine st_gno rfl rfl ?_
      refine st_gno rfl rfl ?_
      refine st_gno rfl rfl ?_
      refine st_gno rfl rfl ?_
      refine st_gno rfl rfl ?_
      refine st_val (ro_pickT (v := .bool _) rfl rfl) ?_
      refine st_nil (nx_then ?_)
      refine cd_condT rfl ?_
      refine cd_exit ?_
      refine ex_then (ex_block (nx_then (cd_region ?_)))
      refine mvi rfl ?_
      refine st_val (ro_add64 rfl rfl (by omega)) ?_
      refine asi rfl ?_
      refine st_nil ?_
      refine nx_cut (i + 1) ⟨(by first | rfl | (refine int_eq ?_; omega)), trivial⟩ (by (iterate 77 refine agr_cons rfl ?_); exact agr_rfl) ⟨?_, ?_⟩
      · exact ⟨by omega, hr30.from_ From.rfl_, hP1.from_ From.rfl_, hBz.next From.rfl_⟩
      · show ps.length - (i + 1) < ps.length - i; omega
    with_reducible replace Q45 := be_f Q45
    have hp0 : q.size ≠ 0 := fun h9 => (str_ne.1 (by simpa using Q45)) (size_zero' h9)
    refine st_unguard rfl ?_
    refine st_val (ro_fieldAddr SegLawI_f25_1 rfl) ?_
    refine st_unguard rfl ?_
    refine st_val (ro_load SegLawI_g23 rfl (by first | (first | exact (hP1.from_ From.rfl_).whole | exact (hP1.from_ From.rfl_).rd 0 rfl | exact (hP1.from_ From.rfl_).rd 1 rfl | exact (hP1.from_ From.rfl_).rd 2 rfl) | (first | exact (hk1.from_ From.rfl_).whole | exact (hk1.from_ From.rfl_).rd 0 rfl | exact (hk1.from_ From.rfl_).rd 1 rfl | exact (hk1.from_ From.rfl_).rd 2 rfl))) ?_
    refine st_unguard rfl ?_
    refine mvi rfl ?_
    refine st_unguard rfl ?_
    refine st_val (ro_indexAddr1 SegLawI_e23 rfl rfl (by omega)) ?_
    refine st_unguard rfl ?_
    refine st_val (ro_load SegLawI_g9 rfl (by exact cellF (hB2.next hBz) hce)) ?_
    refine st_unguard rfl ?_
    refine st_val (ro_lenS (by kernel_rfl) rfl) ?_
    refine st_unguard rfl ?_
    refine st_val (ro_gtr rfl rfl) ?_
    refine st_val (ro_pickF (v := .bool _) rfl rfl) ?_
    refine st_nil (nx_then ?_)
    refine cd_cond rfl (fun Q46 => ?_) (fun Q46 => ?_)
    · with_reducible replace Q46 := of_decide_eq_true Q46
      refine cd_exit ?_
      refine ex_then (ex_block (nx_then (cd_region ?_)))
      refine mvi rfl ?_
      refine st_val (ro_add64 rfl rfl (by omega)) ?_
      refine asi rfl ?_
      refine st_nil ?_
      refine nx_cut (i + 1) ⟨(by first | rfl | (refine int_eq ?_; omega)), trivial⟩ (by (iterate 77 refine agr_cons rfl ?_); exact agr_rfl) ⟨?_, ?_⟩
      · exact ⟨by omega, hr30.from_ From.rfl_, hP1.from_ From.rfl_, hBz.next From.rfl_⟩
      · show ps.length - (i + 1) < ps.length - i; omega
    with_reducible replace Q46 := of_decide_eq_false Q46
    refine cd_skip (nx_then (cd_seq (cd_region ?_)))
    refine st_val (ro_fieldAddr SegLawI_f25_1 rfl) ?_
    refine st_val (ro_load SegLawI_g23 rfl (by first | (first | exact (hP1.from_ From.rfl_).whole | exact (hP1.from_ From.rfl_).rd 0 rfl | exact (hP1.from_ From.rfl_).rd 1 rfl | exact (hP1.from_ From.rfl_).rd 2 rfl) | (first | exact (hk1.from_ From.rfl_).whole | exact (hk1.from_ From.rfl_).rd 0 rfl | exact (hk1.from_ From.rfl_).rd 1 rfl | exact (hk1.from_ From.rfl_).rd 2 rfl))) ?_
    refine mvi rfl ?_
    refine st_val (ro_indexAddr1 SegLawI_e23 rfl rfl (by omega)) ?_
    refine st_val (ro_load SegLawI_g9 rfl (by exact cellF (hB2.next hBz) hce)) ?_
    refine st_call SegLawI_k22 (refPattern_rt q _ (by omega)) ?_
    rintro v125 w47 ⟨⟨A125, c125, rfl, hr125⟩, E125⟩
    refine ass rfl ?_
    refine st_nil (nx_then (cd_seq (cd_region ?_)))
    refine mvp rfl ?_
    refine st_val (ro_nilCheck rfl) ?_
    refine st_val (ro_fieldAddr SegLawI_f47_0 rfl) ?_
    refine st_val (ro_load SegLawI_g44 rfl (by exact (hS2.from_ (hBz.next (From.rfl_.next E125))).rd 0 hS0)) ?_
    refine mvs rfl ?_
    refine st_call SegLawI_k21 (find_p _ x 257 a c125 q.size (syms ds) Bs F A125 (txt q) _ (hf2.from_ (hBz.next (From.rfl_.next E125))) (hr125.from_ From.rfl_) (txt_len q).symm (by omega) (txt_ne hp0) (txt_lt q)) ?_
    rintro v132 w48 ⟨⟨A132, c132, rfl, hr132⟩, E132⟩
    have hfl : (fndL (syms ds) (txt q)).length ≤ (syms ds).length := fndTo_le
    refine mvt rfl ?_
    refine st_val (ro_extract rfl rfl) ?_
    refine st_val (ro_extract rfl rfl) ?_
    refine ass rfl ?_
    refine asi rfl ?_
    refine st_nil (nx_then (cd_seq (cd_region ?_)))
    refine mvi rfl ?_
    refine st_call SegLawI_k13 (num_any _ _) ?_
    rintro v136 w49 ⟨rfl, rfl⟩
    refine st_val (ro_bf (ro_neq rfl rfl) (bne_self_eq_false _)) ?_
    refine mvb rfl ?_
    refine st_unguard rfl ?_
    refine mvs rfl ?_
    refine st_unguard rfl ?_
    refine mvs rfl ?_
    refine st_unguard rfl ?_
    refine mvs rfl ?_
    refine st_unguard rfl ?_
    refine st_call SegLawI_k23 (refFind_rt A30 A125 c30 c125 (syms ds).length q.size (syms ds) (txt q) _ (hr30.from_ ((From.rfl_.next E125).next E132)) rfl (hr125.from_ E132) (txt_len q).symm (by omega) (by omega)) ?_
    rintro v142 w50 ⟨⟨A142, c142, rfl, ho142⟩, E142⟩
    refine st_unguard rfl ?_
    refine st_call SegLawI_k18 (eq_same A132 A142 c132 c142 (fndL (syms ds) (txt q)).length (fndL (syms ds) (txt q)).length (cI (fndL (syms ds) (txt q))) _ (hr132.from_ E142) (RowOf.own ho142).2 (by rw [List.length_map]) (by rw [List.length_map]) (by omega)) ?_
    rintro v143 w51 ⟨rfl, E143⟩
    refine st_unguard rfl ?_
    refine st_val (ro_bf (ro_not rfl) rfl) ?_
    refine st_val (ro_pickF (v := .bool _) rfl rfl) ?_
    refine st_nil (nx_then ?_)
    refine cd_condF rfl ?_
    refine cd_skip (nx_block (nx_then (cd_region ?_)))
    refine mvi rfl ?_
    refine st_val (ro_add64 rfl rfl (by omega)) ?_
    refine asi rfl ?_
    refine st_nil ?_
    refine nx_cut (i + 1) ⟨(by first | rfl | (refine int_eq ?_; omega)), trivial⟩ (by (iterate 106 refine agr_cons rfl ?_); exact agr_rfl) ⟨?_, ?_⟩
    · exact ⟨by omega, hr30.from_ ((((From.rfl_.next E125).next E132).next E142).next E143), hP1.from_ ((((From.rfl_.next E125).next E132).next E142).next E143), hBz.next ((((From.rfl_.next E125).next E132).next E142).next E143)⟩
    · show ps.length - (i + 1) < ps.length - i; omega
  with_reducible replace Q44 := of_decide_eq_false Q44
  refine cd_exit ?_
  refine ex_then (ex_then (ex_block (nx_then (cd_seq (cd_region ?_)))))
  refine st_call SegLawI_k9 (wakes_rt _) ?_
  rintro v146 w52 ⟨rfl, E146⟩
  refine asb rfl ?_
  refine st_nil (nx_then (cd_ret ?_))
  refine res1 (v := .bool _) rfl rfl ?_
  exact ⟨rfl, ((hB2.next hBz).next E146)⟩
theorem index_arg (cs : Array Value) (x : (Ty.pr (Ty.sl docT) (.pr (.sl .str) (.pr (.sl .str) .unit))).den) (w : World) (hs : cs.size = 3) (h : (Ty.pr (Ty.sl docT) (.pr (.sl .str) (.pr (.sl .str) .unit))).At w (fun j => cs[j]?) x) :
    Rt Try.prog 4 [.agg cs] w fun v w' => v = .bool true ∧ From w w' := by
  obtain ⟨A, B, C, ca, cb, cc, ds, ps, ns, rfl, ha, hcap⟩ := ask_of8 hs h
  exact index_law A B C ca cb cc ds ps ns w ha
theorem SegmentIndex_lifted (os : Os) (started : os.Started) (H : Type) (enc : TypeId × Value → H) :
    ReturnsInHanded {} Try.checked os 4 .any (Rows.segmentIndexSpec.pre6 enc Try.prog Try.f4 Rows.segmentIndexRow.domain false) (Rows.segmentIndexSpec.post enc Try.prog Try.f4 false true false false) := by
  refine returnsInHanded_of_change_sized (C := Try.checked) Try.own started (by kernel_rfl) Try.func4
    (ChangeSpec.witness6 (enc := enc) (C := Try.checked) false ⟨#[], #[.agg #[.slice none 0 0, .slice none 0 0, .slice none 0 0]], []⟩ 8 (by kernel_rfl) (by kernel_rfl) (by kernel_rfl) (by kernel_rfl)) ?_
  intro W base args ds gs before hval hW _ hsz _
  exact law_step 4 Try.f4 25 4 Rows.segmentIndexSpec Try.params4 (by kernel_rfl) Try.underlying4 rfl (fun _ => rfl) (by kernel_rfl) (of_decide_eq_true (by kernel_rfl)) (walk_struct (Ty.sl docT) (.pr (.sl .str) (.pr (.sl .str) .unit)) (by kernel_rfl) index_arg) W base args ds gs before hval hW hsz

theorem SegmentIndex_holds : Rows.SegmentIndexSaid :=
  OpenClaim.holds_of_wide 4 Try.f4 rfl rfl rfl rfl rfl rfl rfl ⟨rfl, rfl, rfl, rfl, rfl⟩ rfl rfl rfl rfl rfl (by kernel_rfl) Try.func4 (by kernel_rfl)
    (of_decide_eq_true (by kernel_rfl)) (by unfold Func.isWrapper; first | (rw [if_pos (by decide +kernel)]; kernel_rfl) | (rw [if_neg (by decide +kernel)]; exact ⟨rfl, rfl⟩))
    (fun os started H enc _ => SegmentIndex_lifted os started H enc)
#print axioms SegmentIndex_holds

end Go.Proofs.Ytllmocjfllbbfaa

namespace Go.Proofs.Ytllmocjfllbbfaa
open Go.RowKit Go.ChangeShapes Go.WideShapes Go.ChangeAt
section
variable {P : Program} {ρ : Operand → Value} {x : Operand} {w : World}
theorem ro_strB {src dst e : TypeId} {a : Addr} {c n : Nat} {l : List UInt8} (hs : P.underlying src = some (.slice e)) (he : P.underlying e = some (.int .u8)) (hd : P.underlying dst = some .string) (hx : ρ x = .slice (some a) n c) (hn : n = l.length)
    (hb : ∀ j (hj : j < l.length), w.cell? (a.add j) = some (.int .u8 (l[j].toNat : Int))) : RO P ρ (.convert src dst x) w (.string ⟨l.toArray⟩) w := fun _ _ _ _ _ => by
  subst hn
  simp only [execOp, hx, Sem.run_bind, run_convert_bytes_back (P := P) w src dst e a c l hs he hd hb, Result.andThen_ok]
  rfl
end
theorem byte_one {w : World} {g e b : Nat} (h : Blk w g e #[.int .u8 ((b : Nat) : Int)]) (hb : b < 256) : ∀ j (hj : j < [UInt8.ofNat b].length), w.cell? ((⟨g, 0, none⟩ : Addr).add j) = some (.int .u8 ([UInt8.ofNat b][j].toNat : Int)) := fun j hj => by
  obtain rfl : j = 0 := by simpa using hj
  have e : (UInt8.ofNat b).toNat = b := by rw [UInt8.toNat_ofNat']; omega
  rw [List.getElem_singleton, e]
  exact h.rd 0 rfl
theorem byte_two {w : World} {g e b d : Nat} (h : Blk w g e #[.int .u8 ((b : Nat) : Int), .int .u8 ((d : Nat) : Int)]) (hb : b < 256) (hd : d < 256) : ∀ j (hj : j < [UInt8.ofNat b, UInt8.ofNat d].length), w.cell? ((⟨g, 0, none⟩ : Addr).add j) = some (.int .u8 ([UInt8.ofNat b, UInt8.ofNat d][j].toNat : Int)) := fun j hj => by
  have e1 : (UInt8.ofNat b).toNat = b := by rw [UInt8.toNat_ofNat']; omega
  have e2 : (UInt8.ofNat d).toNat = d := by rw [UInt8.toNat_ofNat']; omega
  match j, hj with
  | 0, _ =>
    show w.cell? ((⟨g, 0, none⟩ : Addr).add 0) = some (Value.int .u8 ((UInt8.ofNat b).toNat : Int))
    rw [e1]
    exact h.rd 0 rfl
  | 1, _ =>
    show w.cell? ((⟨g, 0, none⟩ : Addr).add 1) = some (Value.int .u8 ((UInt8.ofNat d).toNat : Int))
    rw [e2]
    exact h.rd 1 rfl
theorem byte_zero {w : World} {g e n : Nat} (h : Blk w g e (List.replicate n (.int .u8 0)).toArray) : ∀ j (hj : j < (List.replicate n (0 : UInt8)).length), w.cell? ((⟨g, 0, none⟩ : Addr).add j) = some (.int .u8 ((List.replicate n (0 : UInt8))[j].toNat : Int)) := fun j hj => by
  rw [List.getElem_replicate]
  have := h.rd j (v := .int .u8 0) (by rw [List.length_replicate] at hj; simp [hj])
  rw [Go.WideShapes.add_plain, Nat.zero_add]
  exact this
end Go.Proofs.Ytllmocjfllbbfaa
