/- The law SegmentQuotas. -/
import Derived.Test.YtllmocjfllbbfaaMgSegLawS6
set_option maxRecDepth 100000
namespace Go.Proofs.Ytllmocjfllbbfaa
open Go.RowKit
open Go.ChangeShapes Go.WideShapes Go.ChangeAt
open Go.Proofs.Ytllmocjfllbbfaa.SA
/-- a pattern stands at this place -/
def HitT (t q : ByteArray) (a : Int) : Prop := ∃ k : Nat, a = (k : Int) ∧ k + q.size ≤ t.size ∧ t.extract k (k + q.size) = q
theorem hits_in {q : ByteArray} (hq : q.size ≠ 0) : ∀ {ds : List Dc} {h : Ht}, h ∈ hits ds q → ∃ i, i < ds.length ∧ (ds.getD i dd).1 = h.1 ∧ HitT (ds.getD i dd).2 q h.2
  | [], h, hm => by cases hm
  | d :: ds, h, hm => by
    rw [hits] at hm
    rcases List.mem_append.1 hm with hm | hm
    · obtain ⟨k, hk, rfl⟩ := List.mem_map.1 hm
      have h1 := ks_lt (txt_ne hq) k hk
      rw [txt_len, txt_len] at h1
      refine ⟨0, by simp, rfl, k, rfl, h1, str_inj (eq_of_beq ?_)⟩
      show ((d.2.extract k (k + q.size)).toList == q.toList) = true
      rw [cut_pre]
      exact (List.mem_filter.1 hk).2
    · obtain ⟨i, h1, h2, h3⟩ := hits_in hq hm
      exact ⟨i + 1, by simpa using h1, h2, h3⟩
theorem segH_in {ds : List Dc} {q : ByteArray} {h : Ht} (hm : h ∈ segH ds q) : q.size ≠ 0 ∧ h ∈ hits ds q := by
  unfold segH at hm
  split at hm
  · rename_i he
    refine ⟨fun h0 => ?_, hm⟩
    unfold patE at he
    rw [if_pos h0] at he
    cases he
  · cases hm
/-- hits rise -/
def HRise (a b : Ht) : Prop := sLt a.1 b.1 ∨ (a.1 = b.1 ∧ a.2 < b.2)
theorem ks_asc (t q : List Nat) : (ks t q).Pairwise (· < ·) := List.Pairwise.filter _ List.pairwise_lt_range
theorem hits_name {q : ByteArray} : ∀ {ds : List Dc} {h : Ht}, h ∈ hits ds q → ∃ d ∈ ds, d.1 = h.1
  | [], h, hm => by cases hm
  | d :: ds, h, hm => by
    rw [hits] at hm
    rcases List.mem_append.1 hm with hm | hm
    · obtain ⟨k, hk, rfl⟩ := List.mem_map.1 hm
      exact ⟨d, List.mem_cons_self .., rfl⟩
    · obtain ⟨e, he, h1⟩ := hits_name hm
      exact ⟨e, List.mem_cons_of_mem _ he, h1⟩
theorem hits_rise {q : ByteArray} : ∀ {ds : List Dc}, ds.Pairwise (fun a b => sLt a.1 b.1) → (hits ds q).Pairwise HRise
  | [], _ => .nil
  | d :: ds, h => by
    obtain ⟨h1, h2⟩ := List.pairwise_cons.1 h
    rw [hits, List.pairwise_append]
    refine ⟨?_, hits_rise h2, fun a ha b hb => ?_⟩
    · rw [List.pairwise_map]
      exact (ks_asc _ _).imp fun hxy => .inr ⟨rfl, by show ((_ : Nat) : Int) < ((_ : Nat) : Int); omega⟩
    · obtain ⟨k, _, rfl⟩ := List.mem_map.1 ha
      obtain ⟨e, he, h3⟩ := hits_name hb
      exact .inl (h3 ▸ h1 e he)
theorem DOrd.pw {ds : List Dc} (h : DOrd ds) : ds.Pairwise (fun a b => sLt a.1 b.1) := by
  rw [List.pairwise_iff_getElem]
  intro i j hi hj hij
  have := h.lt hij hj
  rwa [getD_get hi, getD_get hj] at this
def dh : Ht := (⟨#[]⟩, 0)
theorem segH_rise {ds : List Dc} {q : ByteArray} (h : DOrd ds) {k : Nat} (hk : k < (segH ds q).length) : k = 0 ∨ (0 < k ∧ sLt ((segH ds q).getD (k - 1) dh).1 ((segH ds q).getD k dh).1) ∨ (0 < k ∧ ((segH ds q).getD (k - 1) dh).1 = ((segH ds q).getD k dh).1 ∧ ((segH ds q).getD (k - 1) dh).2 < ((segH ds q).getD k dh).2) := by
  rcases Nat.eq_zero_or_pos k with h0 | h0
  · exact .inl h0
  · have hp : (segH ds q).Pairwise HRise := by
      unfold segH
      split
      · exact hits_rise h.pw
      · exact .nil
    have h3 := List.pairwise_iff_getElem.1 hp (k - 1) k (by omega) hk (by omega)
    rw [List.getD_eq_getElem?_getD, List.getD_eq_getElem?_getD, List.getElem?_eq_getElem hk, List.getElem?_eq_getElem (by omega : k - 1 < (segH ds q).length)]
    rcases h3 with h3 | h3
    · exact .inr (.inl ⟨h0, h3⟩)
    · exact .inr (.inr ⟨h0, h3⟩)
theorem doc_hit (base s : Nat) (ds : List Dc) (q : ByteArray) (h : Ht) (w : World) (hs : SegAt w base s ds) (hm : h ∈ segH ds q) : Rt Try.prog 25 [.pointer (some ⟨s, 0, none⟩), .string h.1] w fun v w' => (∃ t, v = .tuple #[.string t, .int .i64 0] ∧ t.size ≤ 2048 ∧ HitT t q h.2) ∧ From w w' := by
  obtain ⟨hord, hfit⟩ := hs.docs
  obtain ⟨hq, hm⟩ := segH_in hm
  obtain ⟨i, h1, h2, h3⟩ := hits_in hq hm
  refine (doc_rt base s ds w hs h.1).mono fun v w' e => ?_
  obtain ⟨e, hF⟩ := e
  refine ⟨?_, hF⟩
  rcases e with ⟨j, hj, e1, rfl⟩ | ⟨e1, _⟩
  · obtain rfl := hord.inj h1 hj (h2.trans e1.symm)
    exact ⟨_, rfl, hfit.2.1 _ (by rw [getD_get h1]; exact List.getElem_mem h1), h3⟩
  · exact absurd h2 (e1 i h1)
theorem pat_one (b : Nat) : patE ⟨[UInt8.ofNat b].toArray⟩ = 0 := by
  unfold patE
  rw [if_neg (by show ¬ (1 : Nat) = 0; omega), if_neg (by show ¬ 4096 < 1; omega)]
theorem hits_one {ds : List Dc} {b : Nat} (hb : b < 256) : (segH ds ⟨[UInt8.ofNat b].toArray⟩).length = (syms ds).count (b + 1) := by
  have e : txt ⟨[UInt8.ofNat b].toArray⟩ = [b + 1] := by
    unfold txt
    rw [Lib.toList_data]
    show [(UInt8.ofNat b).toNat + 1] = [b + 1]
    rw [UInt8.toNat_ofNat']
    congr 2
    omega
  unfold segH
  rw [if_pos (pat_one b), ← hits_loc (by rw [e]; simp), List.length_map, e, pls_one]
theorem cnt_step {s : ByteArray} {k b u : Nat} (h : k < s.size) (hu : (txt s).getD k 0 = u + 1) : ((txt s).take (k + 1)).count (b + 1) = ((txt s).take k).count (b + 1) + if u = b then 1 else 0 := by
  rw [txt_take h, List.count_append, List.count_singleton, hu]
  by_cases e : u = b
  · subst e; simp
  · have : (u + 1 == b + 1) = false := by rw [beq_eq_false_iff_ne]; omega
    rw [this, if_neg e]; rfl
theorem cnt_doc {ds : List Dc} {i b : Nat} (h : i < ds.length) : (syms (ds.take (i + 1))).count (b + 1) = (syms (ds.take i)).count (b + 1) + (txt (ds.getD i dd).2).count (b + 1) := by
  rw [syms_take h, List.count_append, List.count_append, List.count_singleton]
  have : (0 == b + 1) = false := by rw [beq_eq_false_iff_ne]; omega
  rw [this]; rfl
theorem cnt_le {ds : List Dc} {i c : Nat} : (syms (ds.take i)).count c ≤ dsz ds + ds.length := by
  refine Nat.le_trans List.count_le_length ?_
  rw [syms_len, List.length_take]
  have := dsz_le (ds := ds) i
  omega
end Go.Proofs.Ytllmocjfllbbfaa

namespace Go.Proofs.Ytllmocjfllbbfaa
open Go.RowKit
open Go.ChangeShapes Go.WideShapes Go.ChangeAt
open Go.Proofs.Ytllmocjfllbbfaa.SA
theorem SegLawH_g9 : aggQ Try.prog 9 = some false := by kernel_rfl
theorem SegLawH_g3 : aggQ Try.prog 3 = some false := by kernel_rfl
theorem SegLawH_g25 : aggQ Try.prog 25 = some true := by kernel_rfl
theorem SegLawH_z25 : sizeQ Try.prog 25 = some 3 := by kernel_rfl
theorem SegLawH_k7 : callable Try.prog 7 = true := by kernel_rfl
theorem SegLawH_f25_0 : fieldQ Try.prog 25 0 = some 0 := by kernel_rfl
theorem SegLawH_g22 : aggQ Try.prog 22 = some false := by kernel_rfl
theorem SegLawH_k24 : callable Try.prog 24 = true := by kernel_rfl
theorem SegLawH_k13 : callable Try.prog 13 = true := by kernel_rfl
theorem SegLawH_p27 : Try.prog.underlying 27 = some (.pointer (Try.prog.pointee 27)) := by kernel_rfl
theorem SegLawH_k9 : callable Try.prog 9 = true := by kernel_rfl
theorem SegLawH_f25_1 : fieldQ Try.prog 25 1 = some 1 := by kernel_rfl
theorem SegLawH_g23 : aggQ Try.prog 23 = some false := by kernel_rfl
theorem SegLawH_l23 : (elemQ Try.prog 23).isSome = true := by kernel_rfl
theorem SegLawH_e23 : elemQ Try.prog 23 = some (9, 1) := by kernel_rfl
theorem SegLawH_k12 : callable Try.prog 12 = true := by kernel_rfl
theorem SegLawH_l32 : (elemQ Try.prog 32).isSome = true := by kernel_rfl
theorem SegLawH_e32 : elemQ Try.prog 32 = some (63, 2) := by kernel_rfl
theorem SegLawH_f63_0 : fieldQ Try.prog 63 0 = some 0 := by kernel_rfl
theorem SegLawH_k25 : callable Try.prog 25 = true := by kernel_rfl
theorem SegLawH_f63_1 : fieldQ Try.prog 63 1 = some 1 := by kernel_rfl
theorem SegLawH_l22 : (elemQ Try.prog 22).isSome = true := by kernel_rfl
theorem SegLawH_e22 : elemQ Try.prog 22 = some (65, 2) := by kernel_rfl
theorem SegLawH_f65_1 : fieldQ Try.prog 65 1 = some 1 := by kernel_rfl
theorem SegLawH_s5 : (Try.prog.underlying 5).isSome = true := by kernel_rfl
theorem SegLawH_i3 : Try.prog.underlying 3 = some (.int .i64) := by kernel_rfl
theorem SegLawH_s3 : (Try.prog.underlying 3).isSome = true := by kernel_rfl
theorem SegLawH_i5 : Try.prog.underlying 5 = some (.int .u8) := by kernel_rfl
theorem SegLawH_q66 : litQ Try.prog 66 = some (5, 1, 1, (.int .u8 0)) := by kernel_rfl
set_option maxHeartbeats 4000000 in
theorem holds_law (A B C : Option Addr) (ca cb cc : Nat) (ds : List Dc) (ps ns : List ByteArray) (w : World) (ha : AskS w A B C ca ds ps ns) (hcap : ds.length ≤ ca) :
    Rt Try.prog 5 [.agg #[.slice A ds.length ca, .slice B ps.length cb, .slice C ns.length cc]] w (fun v w' => v = .bool true ∧ From w w') := by
  have hlenP := ha.lenP
  refine enter (n := 222) Try.func5 rfl rfl rfl ?_
  refine cd_seq (cd_region ?_)
  refine st_box (v := .agg _) rfl ?_
  intro b1 w1 E1 hb1 hk1
  refine asb rfl ?_
  refine st_nil (nx_then (cd_seq (cd_seq (cd_region ?_))))
  refine st_val (ro_loadA (cs := [_, _, _]) SegLawH_g25 SegLawH_z25 rfl (by first | (first | exact (hk2.from_ (hBz.next From.rfl_)).whole | exact (hk2.from_ (hBz.next From.rfl_)).rd 0 rfl | exact (hk2.from_ (hBz.next From.rfl_)).rd 1 rfl) | (first | exact (hk1.from_ From.rfl_).whole | exact (hk1.from_ From.rfl_).rd 0 rfl | exact (hk1.from_ From.rfl_).rd 1 rfl | exact (hk1.from_ From.rfl_).rd 2 rfl))) ?_
  refine st_call SegLawH_k7 (heavy_rt A B C ca cb cc ds ps ns _ (ha.from_ (From.rfl_.next E1))) ?_
  rintro v18 w2 ⟨⟨hv, rfl, hli⟩, E18⟩
  refine st_nil (nx_then ?_)
  refine cd_cond rfl (fun Q3 => ?_) (fun Q3 => ?_)
  · refine cd_seq (cd_region ?_)
    refine asb rfl ?_
    refine st_nil (nx_then (cd_ret (rt_then ?_)))
    refine res1 (v := .bool _) rfl rfl ?_
    exact ⟨rfl, ((From.rfl_.next E1).next E18)⟩
  obtain ⟨hl1, hl2, hl3⟩ := hli (by simpa using Q3)
  refine cd_skip (nx_then (cd_seq (cd_region ?_)))
  refine st_val (ro_fieldAddr SegLawH_f25_0 rfl) ?_
  refine st_val (ro_load SegLawH_g22 rfl (by first | (first | exact (hk2.from_ (hBz.next (From.rfl_.next E18))).whole | exact (hk2.from_ (hBz.next (From.rfl_.next E18))).rd 0 rfl | exact (hk2.from_ (hBz.next (From.rfl_.next E18))).rd 1 rfl) | (first | exact (hk1.from_ (From.rfl_.next E18)).whole | exact (hk1.from_ (From.rfl_.next E18)).rd 0 rfl | exact (hk1.from_ (From.rfl_.next E18)).rd 1 rfl | exact (hk1.from_ (From.rfl_.next E18)).rd 2 rfl))) ?_
  have hz22 := (((From.rfl_.next E1).next E18)).size
  refine st_call SegLawH_k24 (new_s A ca ds.length ds _ (ha.row.from_ ((From.rfl_.next E1).next E18)) rfl (by omega) (fun h9 => by have := ha.nil h9; omega)) ?_
  rintro v22 w4 ⟨hs22, E22⟩
  replace hk1 := hk1.from_ ((From.rfl_.next E18).next E22)
  rcases hs22 with ⟨hck, rfl⟩ | ⟨hck, s, rfl, hsg⟩
  · have hb33 : (docE ds != 0) = true := by simpa using hck
    refine mvt rfl ?_
    refine st_val (ro_extract rfl rfl) ?_
    refine st_val (ro_extract rfl rfl) ?_
    refine asp rfl ?_
    refine asi rfl ?_
    refine st_nil (nx_then (cd_seq (cd_seq (cd_region ?_))))
    refine mvi rfl ?_
    refine st_call SegLawH_k13 (num_any _ _) ?_
    rintro v26 w5 ⟨rfl, rfl⟩
    refine st_val (ro_neq rfl rfl) ?_
    refine st_nil (nx_then ?_)
    refine cd_cond rfl (fun Q6 => ?_) (fun Q6 => ?_)
    rotate_left
    · with_reducible replace Q6 := bx_f Q6
      exfalso; omega
    with_reducible replace Q6 := bx_t Q6
    refine cd_seq (cd_region ?_)
    refine mvp rfl ?_
    refine st_val (ro_eqlNil SegLawH_p27 rfl rfl) ?_
    refine mvb rfl ?_
    refine st_split (t := 30) rfl (fun Q222 => ?_) (fun Q222 => ?_)
    rotate_left
    · exfalso; contradiction
    refine st_unguard rfl ?_
    refine st_call SegLawH_k9 (wakes_rt _) ?_
    rintro v31 w223 ⟨rfl, E31⟩
    refine st_val (ro_pickT (v := .bool _) rfl rfl) ?_
    refine asb rfl ?_
    refine st_nil (nx_then (cd_ret (rt_then ?_)))
    refine res1 (v := .bool _) rfl rfl ?_
    exact ⟨rfl, ((((From.rfl_.next E1).next E18).next E22).next E31)⟩
  replace hsg := hsg.le hz22
  obtain ⟨hord, hfit⟩ := hsg.docs
  have hf1 := hfit.1
  have hf3 := hfit.2.2
  obtain ⟨W2, hW2⟩ : ∃ W, W = w4 := ⟨_, rfl⟩
  have hB2 : From w W2 := by rw [hW2]; exact (((From.rfl_.next E1).next E18).next E22)
  have hs2 := hsg
  have hk2 := hk1
  rw [← hW2] at hs2 hk2
  refine mvt rfl ?_
  refine st_val (ro_extract rfl rfl) ?_
  refine st_val (ro_extract rfl rfl) ?_
  refine asp rfl ?_
  refine asi rfl ?_
  refine st_nil (nx_then (cd_seq (cd_seq (cd_region ?_))))
  refine mvi rfl ?_
  refine st_call SegLawH_k13 (num_any _ _) ?_
  rintro v26 w224 ⟨rfl, rfl⟩
  refine st_val (ro_neq rfl rfl) ?_
  refine st_nil (nx_then ?_)
  refine cd_cond rfl (fun Q225 => ?_) (fun Q225 => ?_)
  · with_reducible replace Q225 := bx_t Q225
    exfalso; omega
  with_reducible replace Q225 := bx_f Q225
  refine cd_skip (nx_then (cd_seq (cd_seq (cd_region ?_))))
  refine asi rfl ?_
  refine st_nil (nx_then (cd_block ?_))
  refine cd_loop (G := Nat) [2, 6, 7, 8, 9, 10, 33, 34, 35, 36, 37, 38, 39, 40, 41, 42, 43, 44, 45, 46, 47, 48, 49, 50, 51, 52, 53, 54, 55, 56, 57, 58, 59, 60, 61, 62, 63, 64, 65, 66, 67, 68, 69, 70, 71, 72, 73, 74, 75, 76, 77, 78, 79, 80, 81, 82, 83, 84, 85, 86, 87, 88, 89, 90, 91, 92, 93, 94, 95, 96, 97, 98, 99, 100, 101, 102, 103, 104, 105, 106, 107, 108, 109, 110, 111, 112, 113, 114, 115, 116, 117, 118, 119, 120, 121, 122, 123, 124, 125, 126, 127, 128, 129, 130, 131, 132, 133, 134, 135, 136, 137, 138, 139, 140, 141, 142, 143, 144, 145, 146, 147, 148, 149, 150, 151, 152, 153, 154, 155, 156, 157, 158, 159, 160, 161, 162, 163, 164, 165, 166, 167] (fun i => [(5, .int .i64 (i : Nat))]) (fun i w' => i ≤ ps.length ∧ From W2 w') (fun i => ps.length - i) (0) ⟨rfl, trivial⟩ ?_ ?_
  · exact ⟨Nat.zero_le _, by rw [hW2]; exact From.rfl_⟩
  rintro i ρ228 w228 ⟨hi, hBz⟩
  refine cd_seq (cd_seq (cd_region ?_))
  refine mvi rfl ?_
  refine st_val (ro_fieldAddr SegLawH_f25_1 rfl) ?_
  refine st_val (ro_load SegLawH_g23 rfl (by first | (first | exact (hk2.from_ (hBz.next From.rfl_)).whole | exact (hk2.from_ (hBz.next From.rfl_)).rd 0 rfl | exact (hk2.from_ (hBz.next From.rfl_)).rd 1 rfl) | (first | exact (hk1.from_ From.rfl_).whole | exact (hk1.from_ From.rfl_).rd 0 rfl | exact (hk1.from_ From.rfl_).rd 1 rfl | exact (hk1.from_ From.rfl_).rd 2 rfl))) ?_
  refine st_val (ro_len SegLawH_l23 rfl) ?_
  refine st_val (ro_lss rfl rfl) ?_
  refine st_nil (nx_then ?_)
  refine cd_cond rfl (fun Q229 => ?_) (fun Q229 => ?_)
  · with_reducible replace Q229 := of_decide_eq_true Q229
    obtain ⟨bD, oD, rfl, hcD⟩ := ha.rowP (by omega)
    have hce := hcD i (by omega)
    have hsmP : (ps[i]).size ≤ 140737488351232 := ha.smP _ (List.getElem_mem (by omega))
    obtain ⟨q, hq⟩ : ∃ q, q = ps[i] := ⟨_, rfl⟩
    rw [← hq] at hce hsmP
    refine cd_skip (nx_then (cd_seq (cd_block (cd_seq (cd_region ?_)))))
    refine mvp rfl ?_
    refine st_val (ro_fieldAddr SegLawH_f25_1 rfl) ?_
    refine st_val (ro_load SegLawH_g23 rfl (by first | (first | exact (hk2.from_ (hBz.next From.rfl_)).whole | exact (hk2.from_ (hBz.next From.rfl_)).rd 0 rfl | exact (hk2.from_ (hBz.next From.rfl_)).rd 1 rfl) | (first | exact (hk1.from_ From.rfl_).whole | exact (hk1.from_ From.rfl_).rd 0 rfl | exact (hk1.from_ From.rfl_).rd 1 rfl | exact (hk1.from_ From.rfl_).rd 2 rfl))) ?_
    refine mvi rfl ?_
    refine st_val (ro_indexAddr1 SegLawH_e23 rfl rfl (by omega)) ?_
    refine st_val (ro_load SegLawH_g9 rfl (by exact cellF (hB2.next hBz) hce)) ?_
    refine st_call SegLawH_k12 (search_rt _ s ds _ (hs2.from_ (hBz.next From.rfl_)) q hsmP) ?_
    rintro v47 w230 ⟨⟨A47, c47, rfl, ho47⟩, E47⟩
    have hr47 := (RowK.own hV_len (by decide) ho47).2
    have hhl : (segH ds q).length ≤ dsz ds + ds.length := by
      unfold segH
      split
      · exact hits_le ds
      · exact Nat.zero_le _
    refine mvt rfl ?_
    refine st_val (ro_extract rfl rfl) ?_
    refine st_val (ro_extract rfl rfl) ?_
    refine ass rfl ?_
    refine asi rfl ?_
    refine st_nil (nx_then (cd_seq (cd_seq (cd_region ?_))))
    refine mvi rfl ?_
    refine st_call SegLawH_k13 (num_any _ _) ?_
    rintro v51 w231 ⟨rfl, rfl⟩
    refine st_val (ro_neq rfl rfl) ?_
    refine st_nil (nx_then ?_)
    refine cd_cond rfl (fun Q232 => ?_) (fun Q232 => ?_)
    · with_reducible replace Q232 := bx_t Q232
      refine cd_exit ?_
      refine ex_then (ex_block (nx_then (cd_region ?_)))
      refine mvi rfl ?_
      refine st_val (ro_add64 rfl rfl (by omega)) ?_
      refine asi rfl ?_
      refine st_nil ?_
      refine nx_cut (i + 1) ⟨(by first | rfl | (refine int_eq ?_; omega)), trivial⟩ (by (iterate 165 refine agr_cons rfl ?_); exact agr_rfl) ⟨?_, ?_⟩
      · exact ⟨by omega, hBz.next (From.rfl_.next E47)⟩
      · show ps.length - (i + 1) < ps.length - i; omega
    with_reducible replace Q232 := bx_f Q232
    refine cd_skip (nx_then (cd_seq (cd_region ?_)))
    refine asi rfl ?_
    refine st_nil (nx_then (cd_block ?_))
    refine cd_loop (G := Nat) [2, 9, 10, 53, 54, 55, 56, 57, 58, 59, 60, 61, 62, 63, 64, 65, 66, 67, 68, 69, 70, 71, 72, 73, 74, 75, 76, 77, 78, 79, 80, 81, 82, 83, 84, 85, 86, 87, 88, 89, 90, 91, 92, 93, 94, 95, 96, 97, 98, 99, 100, 101, 102, 103, 104, 105, 106, 107, 108, 109, 110, 111, 112, 113, 114, 115, 116, 117, 118, 119, 120, 121, 122, 123, 124, 125, 126, 127, 128, 129, 130, 131, 132, 133, 134, 135, 136, 137, 138, 139, 140, 141, 142, 143, 144, 145, 146, 147, 148, 149, 150, 151, 152, 153, 154, 155, 156, 157, 158, 159, 160, 161, 162, 163, 164, 165, 166, 167] (fun k => [(8, .int .i64 (k : Nat))]) (fun k w' => k ≤ (segH ds q).length ∧ RowK 2 hV w' A47 (segH ds q) ∧ From W2 w') (fun k => (segH ds q).length - k) (0) ⟨rfl, trivial⟩ ?_ ?_
    · exact ⟨Nat.zero_le _, hr47.from_ From.rfl_, hBz.next (From.rfl_.next E47)⟩
    rintro k ρ233 w233 ⟨hk, hr47, hBz⟩
    refine cd_seq (cd_seq (cd_region ?_))
    refine mvi rfl ?_
    refine mvs rfl ?_
    refine st_val (ro_len SegLawH_l32 rfl) ?_
    refine st_val (ro_lss rfl rfl) ?_
    refine st_nil (nx_then ?_)
    refine cd_cond rfl (fun Q234 => ?_) (fun Q234 => ?_)
    · with_reducible replace Q234 := of_decide_eq_true Q234
      obtain ⟨bH, oH, rfl, hcH⟩ := hr47 (by omega)
      have hkl : k < (segH ds q).length := by omega
      have hgd : ∀ j, j < (segH ds q).length → w233.rangeAt bH (oH + j * 2) (hV ((segH ds q).getD j dh)) := fun j hj => by
        rw [List.getD_eq_getElem?_getD, List.getElem?_eq_getElem hj]
        exact hcH j hj
      have hch := hgd k hkl
      have hcp : 0 < k → w233.rangeAt bH (oH + (k - 1) * 2) (hV ((segH ds q).getD (k - 1) dh)) := fun h => hgd (k - 1) (by omega)
      have hmem : (segH ds q).getD k dh ∈ segH ds q := by
        rw [List.getD_eq_getElem?_getD, List.getElem?_eq_getElem hkl]
        exact List.getElem_mem hkl
      refine cd_skip (nx_then (cd_seq (cd_block (cd_seq (cd_region ?_)))))
      refine mvp rfl ?_
      refine mvs rfl ?_
      refine mvi rfl ?_
      refine st_val (ro_indexAddrN SegLawH_e32 rfl rfl (by omega)) ?_
      refine st_val (ro_fieldAddr SegLawH_f63_0 rfl) ?_
      refine st_val (ro_load SegLawH_g9 rfl (by exact cellF From.rfl_ (hch 0 _ rfl))) ?_
      refine st_call SegLawH_k25 (doc_hit _ s ds q ((segH ds q).getD k dh) _ (hs2.from_ (hBz.next From.rfl_)) hmem) ?_
      rintro v66 w235 ⟨⟨t, rfl, ht, kk, hkk, hkb, hex⟩, E66⟩
      have hc2 := hch 1 _ rfl
      rw [hkk] at hc2
      refine mvt rfl ?_
      refine st_val (ro_extract rfl rfl) ?_
      refine st_val (ro_extract rfl rfl) ?_
      refine asg rfl ?_
      refine asi rfl ?_
      refine st_nil (nx_then (cd_seq (cd_seq ?_)))
      have hz0 : (0 : Nat) = 0 := rfl
      apply cd_drawnD 55 [(69, eqp _), (70, eqp _), (71, eqp _), (72, eqp _), (73, eqp _), (74, eqp _), (75, eqp _), (76, eqp _), (77, eqp (.int .i64 (kk : Nat))), (78, eqp _), (79, eqp _), (80, eqp _), (81, eqp _), (82, eqp _), (83, eqp _), (84, eqp _), (85, eqp (.string q)), (86, eqp _), (87, eqp _), (88, eqp _), (89, eqp _), (90, eqp _), (91, eqp _), (92, eqp _), (93, eqp (.int .i64 (kk : Nat))), (94, eqp _), (95, eqp _), (96, eqp _), (97, eqp _), (98, eqp _), (99, eqp _), (100, eqp _), (101, eqp _), (102, eqp _), (103, eqp (.int .i64 (kk : Nat))), (104, eqp _), (105, eqp _), (106, eqp _), (107, eqp _), (108, eqp (.int .i64 (kk : Nat))), (109, eqp _), (110, eqp _), (111, eqp _), (112, eqp _), (113, eqp (.string q)), (114, eqp _), (115, eqp _), (116, eqp (.string (t.extract kk (kk + q.size)))), (117, eqp _), (118, eqp _), (119, eqp _), (120, eqp _), (121, eqp (.string q)), (122, eqp _), (123, eqp _)] (by repeat first | exact pq_body | refine pq_then ?_ | refine pq_block ?_) (by kernel_rfl) (by kernel_rfl) ⟨eqp_mono _, eqp_mono _, eqp_mono _, eqp_mono _, eqp_mono _, eqp_mono _, eqp_mono _, eqp_mono _, eqp_mono _, eqp_mono _, eqp_mono _, eqp_mono _, eqp_mono _, eqp_mono _, eqp_mono _, eqp_mono _, eqp_mono _, eqp_mono _, eqp_mono _, eqp_mono _, eqp_mono _, eqp_mono _, eqp_mono _, eqp_mono _, eqp_mono _, eqp_mono _, eqp_mono _, eqp_mono _, eqp_mono _, eqp_mono _, eqp_mono _, eqp_mono _, eqp_mono _, eqp_mono _, eqp_mono _, eqp_mono _, eqp_mono _, eqp_mono _, eqp_mono _, eqp_mono _, eqp_mono _, eqp_mono _, eqp_mono _, eqp_mono _, eqp_mono _, eqp_mono _, eqp_mono _, eqp_mono _, eqp_mono _, eqp_mono _, eqp_mono _, eqp_mono _, eqp_mono _, eqp_mono _, eqp_mono _, trivial⟩
      case hop =>
       refine ⟨?_, ?_⟩
       · rintro - w237 D237
         show OpOK _ _ _ _ _ _ _
         exact ok_pure (ro_move (v := .int _ _) rfl) rfl
       refine ⟨?_, ?_⟩
       · rintro - w238 D238
         rintro _ rfl
         show OpOK _ _ _ _ _ _ _
         refine ok_call SegLawH_k13 ((num_any _ _).mono ?_)
         rintro v _ ⟨rfl, rfl⟩; exact ⟨From.rfl_, rfl⟩
       refine ⟨?_, ?_⟩
       · rintro - w239 D239
         rintro _ rfl
         show OpOK _ _ _ _ _ _ _
         exact ok_pure (ro_bf (ro_neq rfl rfl) rfl) rfl
       refine ⟨?_, ?_⟩
       · rintro - w240 D240
         rintro _ rfl
         show OpOK _ _ _ _ _ _ _
         exact ok_pure (ro_move (v := .bool _) rfl) rfl
       refine ⟨?_, ?_⟩
       · rintro - w241 D241
         rintro _ rfl
         show OpOK _ _ _ _ _ _ _
         exact ok_gpure rfl (ro_move (v := .slice _ _ _) rfl) rfl
       refine ⟨?_, ?_⟩
       · rintro - w242 D242
         rintro _ rfl
         show OpOK _ _ _ _ _ _ _
         exact ok_gpure rfl (ro_move (v := .int _ _) rfl) rfl
       refine ⟨?_, ?_⟩
       · rintro - w243 D243
         rintro _ rfl _ rfl _ rfl
         show OpOK _ _ _ _ _ _ _
         exact ok_gpure rfl (ro_indexAddrN SegLawH_e32 rfl rfl (by omega)) rfl
       refine ⟨?_, ?_⟩
       · rintro - w244 D244
         rintro _ rfl _ rfl
         show OpOK _ _ _ _ _ _ _
         exact ok_gpure rfl (ro_fieldAddr SegLawH_f63_1 rfl) rfl
       refine ⟨?_, ?_⟩
       · rintro - w245 D245
         rintro _ rfl _ rfl
         show OpOK _ _ _ _ _ _ _
         exact ok_gpure rfl (ro_load (v := .int .i64 (kk : Nat)) SegLawH_g3 rfl (cellF ((From.rfl_.next E66).next D245) hc2)) rfl
       refine ⟨?_, ?_⟩
       · rintro - w246 D246
         rintro _ rfl v246_77 rfl
         show OpOK _ _ _ _ _ _ _
         exact ok_gpure rfl (ro_bf (ro_lss rfl rfl) (decide_eq_false (by omega))) rfl
       refine ⟨?_, ?_⟩
       · rintro - w247 D247
         rintro _ rfl _ rfl
         show OpOK _ _ _ _ _ _ _
         exact ok_pure (ro_pickF (v := .bool _) rfl rfl) rfl
       refine ⟨?_, ?_⟩
       · rintro - w248 D248
         rintro _ rfl
         show OpOK _ _ _ _ _ _ _
         exact ok_pure (ro_move (v := .bool _) rfl) rfl
       refine ⟨?_, ?_⟩
       · rintro - w249 D249
         rintro _ rfl
         show OpOK _ _ _ _ _ _ _
         exact ok_gpure rfl (ro_fieldAddr SegLawH_f25_1 rfl) rfl
       refine ⟨?_, ?_⟩
       · rintro - w250 D250
         rintro _ rfl _ rfl
         show OpOK _ _ _ _ _ _ _
         exact ok_gpure rfl (ro_load SegLawH_g23 rfl (by first | (first | exact (hk2.from_ (hBz.next ((From.rfl_.next E66).next D250))).whole | exact (hk2.from_ (hBz.next ((From.rfl_.next E66).next D250))).rd 0 rfl | exact (hk2.from_ (hBz.next ((From.rfl_.next E66).next D250))).rd 1 rfl) | (first | exact (hk1.from_ ((From.rfl_.next E66).next D250)).whole | exact (hk1.from_ ((From.rfl_.next E66).next D250)).rd 0 rfl | exact (hk1.from_ ((From.rfl_.next E66).next D250)).rd 1 rfl | exact (hk1.from_ ((From.rfl_.next E66).next D250)).rd 2 rfl))) rfl
       refine ⟨?_, ?_⟩
       · rintro - w251 D251
         rintro _ rfl
         show OpOK _ _ _ _ _ _ _
         exact ok_gpure rfl (ro_move (v := .int _ _) rfl) rfl
       refine ⟨?_, ?_⟩
       · rintro - w252 D252
         rintro _ rfl _ rfl _ rfl
         show OpOK _ _ _ _ _ _ _
         exact ok_gpure rfl (ro_indexAddr1 SegLawH_e23 rfl rfl (by omega)) rfl
       refine ⟨?_, ?_⟩
       · rintro - w253 D253
         rintro _ rfl _ rfl
         show OpOK _ _ _ _ _ _ _
         exact ok_gpure rfl (ro_load (v := .string q) SegLawH_g9 rfl (cellF (((hB2.next hBz).next E66).next D253) hce)) rfl
       refine ⟨?_, ?_⟩
       · rintro - w254 D254
         rintro _ rfl v254_85 rfl
         show OpOK _ _ _ _ _ _ _
         exact ok_gpure rfl (ro_lenS (by kernel_rfl) rfl) rfl
       refine ⟨?_, ?_⟩
       · rintro - w255 D255
         rintro _ rfl
         show OpOK _ _ _ _ _ _ _
         exact ok_gpure rfl (ro_move (v := .string _) rfl) rfl
       refine ⟨?_, ?_⟩
       · rintro - w256 D256
         rintro _ rfl _ rfl
         show OpOK _ _ _ _ _ _ _
         exact ok_gpure rfl (ro_lenS (by kernel_rfl) rfl) rfl
       refine ⟨?_, ?_⟩
       · rintro - w257 D257
         rintro _ rfl
         show OpOK _ _ _ _ _ _ _
         exact ok_gpure rfl (ro_move (v := .slice _ _ _) rfl) rfl
       refine ⟨?_, ?_⟩
       · rintro - w258 D258
         rintro _ rfl
         show OpOK _ _ _ _ _ _ _
         exact ok_gpure rfl (ro_move (v := .int _ _) rfl) rfl
       refine ⟨?_, ?_⟩
       · rintro - w259 D259
         rintro _ rfl _ rfl _ rfl
         show OpOK _ _ _ _ _ _ _
         exact ok_gpure rfl (ro_indexAddrN SegLawH_e32 rfl rfl (by omega)) rfl
       refine ⟨?_, ?_⟩
       · rintro - w260 D260
         rintro _ rfl _ rfl
         show OpOK _ _ _ _ _ _ _
         exact ok_gpure rfl (ro_fieldAddr SegLawH_f63_1 rfl) rfl
       refine ⟨?_, ?_⟩
       · rintro - w261 D261
         rintro _ rfl _ rfl
         show OpOK _ _ _ _ _ _ _
         exact ok_gpure rfl (ro_load (v := .int .i64 (kk : Nat)) SegLawH_g3 rfl (cellF ((From.rfl_.next E66).next D261) hc2)) rfl
       refine ⟨?_, ?_⟩
       · rintro - w262 D262
         rintro _ rfl _ rfl v262_93 rfl
         show OpOK _ _ _ _ _ _ _
         exact ok_gpure rfl (ro_subN rfl rfl (by omega)) rfl
       refine ⟨?_, ?_⟩
       · rintro - w263 D263
         rintro _ rfl _ rfl _ rfl
         show OpOK _ _ _ _ _ _ _
         exact ok_gpure rfl (ro_bf (ro_gtr rfl rfl) (decide_eq_false (by omega))) rfl
       refine ⟨?_, ?_⟩
       · rintro - w264 D264
         rintro _ rfl _ rfl
         show OpOK _ _ _ _ _ _ _
         exact ok_pure (ro_pickF (v := .bool _) rfl rfl) rfl
       refine ⟨?_, ?_⟩
       · rintro - w265 D265
         rintro _ rfl
         show OpOK _ _ _ _ _ _ _
         exact ok_pure (ro_move (v := .bool _) rfl) rfl
       refine ⟨?_, ?_⟩
       · rintro - w266 D266
         rintro _ rfl
         show OpOK _ _ _ _ _ _ _
         exact ok_gpure rfl (ro_move (v := .string _) rfl) rfl
       refine ⟨?_, ?_⟩
       · rintro - w267 D267
         rintro _ rfl
         show OpOK _ _ _ _ _ _ _
         exact ok_gpure rfl (ro_move (v := .slice _ _ _) rfl) rfl
       refine ⟨?_, ?_⟩
       · rintro - w268 D268
         rintro _ rfl
         show OpOK _ _ _ _ _ _ _
         exact ok_gpure rfl (ro_move (v := .int _ _) rfl) rfl
       refine ⟨?_, ?_⟩
       · rintro - w269 D269
         rintro _ rfl _ rfl _ rfl
         show OpOK _ _ _ _ _ _ _
         exact ok_gpure rfl (ro_indexAddrN SegLawH_e32 rfl rfl (by omega)) rfl
       refine ⟨?_, ?_⟩
       · rintro - w270 D270
         rintro _ rfl _ rfl
         show OpOK _ _ _ _ _ _ _
         exact ok_gpure rfl (ro_fieldAddr SegLawH_f63_1 rfl) rfl
       refine ⟨?_, ?_⟩
       · rintro - w271 D271
         rintro _ rfl _ rfl
         show OpOK _ _ _ _ _ _ _
         exact ok_gpure rfl (ro_load (v := .int .i64 (kk : Nat)) SegLawH_g3 rfl (cellF ((From.rfl_.next E66).next D271) hc2)) rfl
       refine ⟨?_, ?_⟩
       · rintro - w272 D272
         rintro _ rfl
         show OpOK _ _ _ _ _ _ _
         exact ok_gpure rfl (ro_move (v := .slice _ _ _) rfl) rfl
       refine ⟨?_, ?_⟩
       · rintro - w273 D273
         rintro _ rfl
         show OpOK _ _ _ _ _ _ _
         exact ok_gpure rfl (ro_move (v := .int _ _) rfl) rfl
       refine ⟨?_, ?_⟩
       · rintro - w274 D274
         rintro _ rfl _ rfl _ rfl
         show OpOK _ _ _ _ _ _ _
         exact ok_gpure rfl (ro_indexAddrN SegLawH_e32 rfl rfl (by omega)) rfl
       refine ⟨?_, ?_⟩
       · rintro - w275 D275
         rintro _ rfl _ rfl
         show OpOK _ _ _ _ _ _ _
         exact ok_gpure rfl (ro_fieldAddr SegLawH_f63_1 rfl) rfl
       refine ⟨?_, ?_⟩
       · rintro - w276 D276
         rintro _ rfl _ rfl
         show OpOK _ _ _ _ _ _ _
         exact ok_gpure rfl (ro_load (v := .int .i64 (kk : Nat)) SegLawH_g3 rfl (cellF ((From.rfl_.next E66).next D276) hc2)) rfl
       refine ⟨?_, ?_⟩
       · rintro - w277 D277
         rintro _ rfl
         show OpOK _ _ _ _ _ _ _
         exact ok_gpure rfl (ro_fieldAddr SegLawH_f25_1 rfl) rfl
       refine ⟨?_, ?_⟩
       · rintro - w278 D278
         rintro _ rfl _ rfl
         show OpOK _ _ _ _ _ _ _
         exact ok_gpure rfl (ro_load SegLawH_g23 rfl (by first | (first | exact (hk2.from_ (hBz.next ((From.rfl_.next E66).next D278))).whole | exact (hk2.from_ (hBz.next ((From.rfl_.next E66).next D278))).rd 0 rfl | exact (hk2.from_ (hBz.next ((From.rfl_.next E66).next D278))).rd 1 rfl) | (first | exact (hk1.from_ ((From.rfl_.next E66).next D278)).whole | exact (hk1.from_ ((From.rfl_.next E66).next D278)).rd 0 rfl | exact (hk1.from_ ((From.rfl_.next E66).next D278)).rd 1 rfl | exact (hk1.from_ ((From.rfl_.next E66).next D278)).rd 2 rfl))) rfl
       refine ⟨?_, ?_⟩
       · rintro - w279 D279
         rintro _ rfl
         show OpOK _ _ _ _ _ _ _
         exact ok_gpure rfl (ro_move (v := .int _ _) rfl) rfl
       refine ⟨?_, ?_⟩
       · rintro - w280 D280
         rintro _ rfl _ rfl _ rfl
         show OpOK _ _ _ _ _ _ _
         exact ok_gpure rfl (ro_indexAddr1 SegLawH_e23 rfl rfl (by omega)) rfl
       refine ⟨?_, ?_⟩
       · rintro - w281 D281
         rintro _ rfl _ rfl
         show OpOK _ _ _ _ _ _ _
         exact ok_gpure rfl (ro_load (v := .string q) SegLawH_g9 rfl (cellF (((hB2.next hBz).next E66).next D281) hce)) rfl
       refine ⟨?_, ?_⟩
       · rintro - w282 D282
         rintro _ rfl v282_113 rfl
         show OpOK _ _ _ _ _ _ _
         exact ok_gpure rfl (ro_lenS (by kernel_rfl) rfl) rfl
       refine ⟨?_, ?_⟩
       · rintro - w283 D283
         rintro _ rfl v283_108 rfl _ rfl
         show OpOK _ _ _ _ _ _ _
         exact ok_gpure rfl (ro_addN rfl rfl (by omega)) rfl
       refine ⟨?_, ?_⟩
       · rintro - w284 D284
         rintro _ rfl _ rfl v284_103 rfl _ rfl
         show OpOK _ _ _ _ _ _ _
         exact ok_gpure rfl (ro_cutS (l := kk) (h := kk + q.size) (by kernel_rfl) rfl (.inr ⟨_, _, _, rfl, rfl, rfl⟩) (.inr ⟨_, _, _, rfl, rfl, rfl⟩) (by omega) (by omega)) rfl
       refine ⟨?_, ?_⟩
       · rintro - w285 D285
         rintro _ rfl
         show OpOK _ _ _ _ _ _ _
         exact ok_gpure rfl (ro_fieldAddr SegLawH_f25_1 rfl) rfl
       refine ⟨?_, ?_⟩
       · rintro - w286 D286
         rintro _ rfl _ rfl
         show OpOK _ _ _ _ _ _ _
         exact ok_gpure rfl (ro_load SegLawH_g23 rfl (by first | (first | exact (hk2.from_ (hBz.next ((From.rfl_.next E66).next D286))).whole | exact (hk2.from_ (hBz.next ((From.rfl_.next E66).next D286))).rd 0 rfl | exact (hk2.from_ (hBz.next ((From.rfl_.next E66).next D286))).rd 1 rfl) | (first | exact (hk1.from_ ((From.rfl_.next E66).next D286)).whole | exact (hk1.from_ ((From.rfl_.next E66).next D286)).rd 0 rfl | exact (hk1.from_ ((From.rfl_.next E66).next D286)).rd 1 rfl | exact (hk1.from_ ((From.rfl_.next E66).next D286)).rd 2 rfl))) rfl
       refine ⟨?_, ?_⟩
       · rintro - w287 D287
         rintro _ rfl
         show OpOK _ _ _ _ _ _ _
         exact ok_gpure rfl (ro_move (v := .int _ _) rfl) rfl
       refine ⟨?_, ?_⟩
       · rintro - w288 D288
         rintro _ rfl _ rfl _ rfl
         show OpOK _ _ _ _ _ _ _
         exact ok_gpure rfl (ro_indexAddr1 SegLawH_e23 rfl rfl (by omega)) rfl
       refine ⟨?_, ?_⟩
       · rintro - w289 D289
         rintro _ rfl _ rfl
         show OpOK _ _ _ _ _ _ _
         exact ok_gpure rfl (ro_load (v := .string q) SegLawH_g9 rfl (cellF (((hB2.next hBz).next E66).next D289) hce)) rfl
       refine ⟨?_, ?_⟩
       · rintro - w290 D290
         rintro _ rfl v290_116 rfl v290_121 rfl
         show OpOK _ _ _ _ _ _ _
         exact ok_gpure rfl (ro_bf (ro_neqS rfl rfl) (by rw [hex, beq_self_eq_true]; rfl)) rfl
       refine ⟨?_, ?_⟩
       · rintro - w291 D291
         rintro _ rfl _ rfl
         show OpOK _ _ _ _ _ _ _
         exact ok_pure (ro_pickF (v := .bool _) rfl rfl) rfl
       exact trivial
      case hend =>
       intro w292 D292
       rintro _ rfl _ rfl _ rfl _ rfl _ rfl _ rfl _ rfl _ rfl v77 rfl _ rfl _ rfl _ rfl _ rfl _ rfl _ rfl _ rfl v85 rfl _ rfl _ rfl _ rfl _ rfl _ rfl _ rfl _ rfl v93 rfl _ rfl _ rfl _ rfl _ rfl _ rfl _ rfl _ rfl _ rfl _ rfl v103 rfl _ rfl _ rfl _ rfl _ rfl v108 rfl _ rfl _ rfl _ rfl _ rfl v113 rfl _ rfl _ rfl v116 rfl _ rfl _ rfl _ rfl _ rfl v121 rfl _ rfl _ rfl
       show St _ _ _ _ _ _ _
       refine st_nil (nx_then ?_)
       refine cd_condF rfl ?_
       refine cd_skip (nx_then (cd_seq ?_))
       rcases segH_rise (q := q) hord hkl with hk0 | ⟨hk0, hlt⟩ | ⟨hk0, heq, hlt⟩
       · apply cd_drawnD 44 [(124, eqp _), (125, eqp _), (126, eqp _), (127, eqp _), (128, eqp _), (129, eqp _), (130, eqp _), (131, eqp _), (132, eqp _), (133, eqp _), (134, eqp _), (135, eqp _), (136, eqp _), (137, eqp _), (138, eqp _), (139, eqp _), (140, eqp _), (141, eqp _), (142, eqp _), (143, eqp _), (144, eqp _), (145, eqp _), (146, eqp _), (147, eqp _), (148, eqp _), (149, eqp _), (150, eqp _), (151, eqp _), (152, eqp _), (153, eqp _), (154, eqp _), (155, eqp _), (156, eqp _), (157, eqp _), (158, eqp _), (159, eqp _), (160, eqp _), (161, eqp _), (162, eqp _), (163, eqp _), (164, eqp _), (165, eqp _), (166, eqp _), (167, eqp _)] (by repeat first | exact pq_body | refine pq_then ?_ | refine pq_block ?_) (by kernel_rfl) (by kernel_rfl) ⟨eqp_mono _, eqp_mono _, eqp_mono _, eqp_mono _, eqp_mono _, eqp_mono _, eqp_mono _, eqp_mono _, eqp_mono _, eqp_mono _, eqp_mono _, eqp_mono _, eqp_mono _, eqp_mono _, eqp_mono _, eqp_mono _, eqp_mono _, eqp_mono _, eqp_mono _, eqp_mono _, eqp_mono _, eqp_mono _, eqp_mono _, eqp_mono _, eqp_mono _, eqp_mono _, eqp_mono _, eqp_mono _, eqp_mono _, eqp_mono _, eqp_mono _, eqp_mono _, eqp_mono _, eqp_mono _, eqp_mono _, eqp_mono _, eqp_mono _, eqp_mono _, eqp_mono _, eqp_mono _, eqp_mono _, eqp_mono _, eqp_mono _, eqp_mono _, trivial⟩
         case hop =>
          refine ⟨?_, ?_⟩
          · rintro - w294 D294
            show OpOK _ _ _ _ _ _ _
            exact ok_pure (ro_move (v := .int _ _) rfl) rfl
          refine ⟨?_, ?_⟩
          · rintro - w295 D295
            rintro _ rfl
            show OpOK _ _ _ _ _ _ _
            exact ok_pure (ro_bf (ro_gtr rfl rfl) (decide_eq_false (by omega))) rfl
          refine ⟨?_, ?_⟩
          · rintro - w296 D296
            rintro _ rfl
            show OpOK _ _ _ _ _ _ _
            exact ok_pure (ro_move (v := .bool _) rfl) rfl
          refine ⟨?_, ?_⟩
          · rintro - w297 D297
            rintro _ rfl
            show OpOK _ _ _ _ _ _ _
            exact ok_gno rfl rfl rfl
          refine ⟨?_, ?_⟩
          · rintro - w298 D298
            rintro _ rfl
            show OpOK _ _ _ _ _ _ _
            exact ok_gno rfl rfl rfl
          refine ⟨?_, ?_⟩
          · rintro - w299 D299
            rintro _ rfl _ rfl
            show OpOK _ _ _ _ _ _ _
            exact ok_gno rfl rfl rfl
          refine ⟨?_, ?_⟩
          · rintro - w300 D300
            rintro _ rfl _ rfl _ rfl
            show OpOK _ _ _ _ _ _ _
            exact ok_gno rfl rfl rfl
          refine ⟨?_, ?_⟩
          · rintro - w301 D301
            rintro _ rfl _ rfl
            show OpOK _ _ _ _ _ _ _
            exact ok_gno rfl rfl rfl
          refine ⟨?_, ?_⟩
          · rintro - w302 D302
            rintro _ rfl _ rfl
            show OpOK _ _ _ _ _ _ _
            exact ok_gno rfl rfl rfl
          refine ⟨?_, ?_⟩
          · rintro - w303 D303
            rintro _ rfl
            show OpOK _ _ _ _ _ _ _
            exact ok_gno rfl rfl rfl
          refine ⟨?_, ?_⟩
          · rintro - w304 D304
            rintro _ rfl
            show OpOK _ _ _ _ _ _ _
            exact ok_gno rfl rfl rfl
          refine ⟨?_, ?_⟩
          · rintro - w305 D305
            rintro _ rfl _ rfl _ rfl
            show OpOK _ _ _ _ _ _ _
            exact ok_gno rfl rfl rfl
          refine ⟨?_, ?_⟩
          · rintro - w306 D306
            rintro _ rfl _ rfl
            show OpOK _ _ _ _ _ _ _
            exact ok_gno rfl rfl rfl
          refine ⟨?_, ?_⟩
          · rintro - w307 D307
            rintro _ rfl _ rfl
            show OpOK _ _ _ _ _ _ _
            exact ok_gno rfl rfl rfl
          refine ⟨?_, ?_⟩
          · rintro - w308 D308
            rintro _ rfl _ rfl _ rfl
            show OpOK _ _ _ _ _ _ _
            exact ok_gno rfl rfl rfl
          refine ⟨?_, ?_⟩
          · rintro - w309 D309
            rintro _ rfl _ rfl
            show OpOK _ _ _ _ _ _ _
            exact ok_gno rfl rfl rfl
          refine ⟨?_, ?_⟩
          · rintro - w310 D310
            rintro _ rfl
            show OpOK _ _ _ _ _ _ _
            exact ok_gund rfl rfl
          refine ⟨?_, ?_⟩
          · rintro - w311 D311
            rintro _ rfl
            show OpOK _ _ _ _ _ _ _
            exact ok_gund rfl rfl
          refine ⟨?_, ?_⟩
          · rintro - w312 D312
            rintro _ rfl _ rfl
            show OpOK _ _ _ _ _ _ _
            exact ok_gund rfl rfl
          refine ⟨?_, ?_⟩
          · rintro - w313 D313
            rintro _ rfl _ rfl _ rfl
            show OpOK _ _ _ _ _ _ _
            exact ok_gund rfl rfl
          refine ⟨?_, ?_⟩
          · rintro - w314 D314
            rintro _ rfl _ rfl
            show OpOK _ _ _ _ _ _ _
            exact ok_gund rfl rfl
          refine ⟨?_, ?_⟩
          · rintro - w315 D315
            rintro _ rfl _ rfl
            show OpOK _ _ _ _ _ _ _
            exact ok_gund rfl rfl
          refine ⟨?_, ?_⟩
          · rintro - w316 D316
            rintro _ rfl
            show OpOK _ _ _ _ _ _ _
            exact ok_gund rfl rfl
          refine ⟨?_, ?_⟩
          · rintro - w317 D317
            rintro _ rfl
            show OpOK _ _ _ _ _ _ _
            exact ok_gund rfl rfl
          refine ⟨?_, ?_⟩
          · rintro - w318 D318
            rintro _ rfl _ rfl _ rfl
            show OpOK _ _ _ _ _ _ _
            exact ok_gund rfl rfl
          refine ⟨?_, ?_⟩
          · rintro - w319 D319
            rintro _ rfl _ rfl
            show OpOK _ _ _ _ _ _ _
            exact ok_gund rfl rfl
          refine ⟨?_, ?_⟩
          · rintro - w320 D320
            rintro _ rfl _ rfl
            show OpOK _ _ _ _ _ _ _
            exact ok_gund rfl rfl
          refine ⟨?_, ?_⟩
          · rintro - w321 D321
            rintro _ rfl _ rfl _ rfl
            show OpOK _ _ _ _ _ _ _
            exact ok_gund rfl rfl
          refine ⟨?_, ?_⟩
          · rintro - w322 D322
            rintro _ rfl _ rfl
            show OpOK _ _ _ _ _ _ _
            exact ok_gund rfl rfl
          refine ⟨?_, ?_⟩
          · rintro - w323 D323
            rintro _ rfl
            show OpOK _ _ _ _ _ _ _
            exact ok_gund rfl rfl
          refine ⟨?_, ?_⟩
          · rintro - w324 D324
            rintro _ rfl
            show OpOK _ _ _ _ _ _ _
            exact ok_gund rfl rfl
          refine ⟨?_, ?_⟩
          · rintro - w325 D325
            rintro _ rfl _ rfl
            show OpOK _ _ _ _ _ _ _
            exact ok_gund rfl rfl
          refine ⟨?_, ?_⟩
          · rintro - w326 D326
            rintro _ rfl _ rfl _ rfl
            show OpOK _ _ _ _ _ _ _
            exact ok_gund rfl rfl
          refine ⟨?_, ?_⟩
          · rintro - w327 D327
            rintro _ rfl _ rfl
            show OpOK _ _ _ _ _ _ _
            exact ok_gund rfl rfl
          refine ⟨?_, ?_⟩
          · rintro - w328 D328
            rintro _ rfl _ rfl
            show OpOK _ _ _ _ _ _ _
            exact ok_gund rfl rfl
          refine ⟨?_, ?_⟩
          · rintro - w329 D329
            rintro _ rfl
            show OpOK _ _ _ _ _ _ _
            exact ok_gund rfl rfl
          refine ⟨?_, ?_⟩
          · rintro - w330 D330
            rintro _ rfl
            show OpOK _ _ _ _ _ _ _
            exact ok_gund rfl rfl
          refine ⟨?_, ?_⟩
          · rintro - w331 D331
            rintro _ rfl _ rfl _ rfl
            show OpOK _ _ _ _ _ _ _
            exact ok_gund rfl rfl
          refine ⟨?_, ?_⟩
          · rintro - w332 D332
            rintro _ rfl _ rfl
            show OpOK _ _ _ _ _ _ _
            exact ok_gund rfl rfl
          refine ⟨?_, ?_⟩
          · rintro - w333 D333
            rintro _ rfl _ rfl
            show OpOK _ _ _ _ _ _ _
            exact ok_gund rfl rfl
          refine ⟨?_, ?_⟩
          · rintro - w334 D334
            rintro _ rfl _ rfl _ rfl
            show OpOK _ _ _ _ _ _ _
            exact ok_gund rfl rfl
          refine ⟨?_, ?_⟩
          · rintro - w335 D335
            rintro _ rfl _ rfl _ rfl
            show OpOK _ _ _ _ _ _ _
            exact ok_gund rfl rfl
          refine ⟨?_, ?_⟩
          · rintro - w336 D336
            rintro _ rfl _ rfl _ rfl
            show OpOK _ _ _ _ _ _ _
            exact ok_gno rfl rfl rfl
          refine ⟨?_, ?_⟩
          · rintro - w337 D337
            rintro _ rfl _ rfl
            show OpOK _ _ _ _ _ _ _
            exact ok_pure (ro_pickF (v := .bool _) rfl rfl) rfl
          exact trivial
         case hend =>
          intro w338 D338
          rintro _ rfl _ rfl _ rfl _ rfl _ rfl _ rfl _ rfl _ rfl _ rfl _ rfl _ rfl _ rfl _ rfl _ rfl _ rfl _ rfl _ rfl _ rfl _ rfl _ rfl _ rfl _ rfl _ rfl _ rfl _ rfl _ rfl _ rfl _ rfl _ rfl _ rfl _ rfl _ rfl _ rfl _ rfl _ rfl _ rfl _ rfl _ rfl _ rfl _ rfl _ rfl _ rfl _ rfl _ rfl
          show St _ _ _ _ _ _ _
          refine st_nil (nx_then ?_)
          refine cd_condF rfl ?_
          refine cd_skip (nx_block (nx_then (cd_region ?_)))
          refine mvi rfl ?_
          refine st_val (ro_add64 rfl rfl (by omega)) ?_
          refine asi rfl ?_
          refine st_nil ?_
          refine nx_cut (k + 1) ⟨(by first | rfl | (refine int_eq ?_; omega)), trivial⟩ (by (iterate 237 refine agr_cons rfl ?_); exact agr_rfl) ⟨?_, ?_⟩
          · exact ⟨by omega, hr47.from_ (((From.rfl_.next E66).next D292).next D338), hBz.next (((From.rfl_.next E66).next D292).next D338)⟩
          · show (segH ds q).length - (k + 1) < (segH ds q).length - k; omega
       · apply cd_drawnD 44 [(124, eqp _), (125, eqp _), (126, eqp _), (127, eqp _), (128, eqp _), (129, eqp _), (130, eqp _), (131, eqp _), (132, eqp (.string ((segH ds q).getD (k - 1) dh).1)), (133, eqp _), (134, eqp _), (135, eqp _), (136, eqp _), (137, eqp (.string ((segH ds q).getD k dh).1)), (138, eqp _), (139, eqp _), (140, eqp _), (141, eqp _), (142, eqp _), (143, eqp _), (144, eqp _), (145, eqp (.string ((segH ds q).getD (k - 1) dh).1)), (146, eqp _), (147, eqp _), (148, eqp _), (149, eqp _), (150, eqp (.string ((segH ds q).getD k dh).1)), (151, eqp _), (152, eqp _), (153, eqp _), (154, eqp _), (155, eqp _), (156, eqp _), (157, eqp _), (158, eqp _), (159, eqp _), (160, eqp _), (161, eqp _), (162, eqp _), (163, eqp _), (164, eqp _), (165, eqp _), (166, eqp _), (167, eqp _)] (by repeat first | exact pq_body | refine pq_then ?_ | refine pq_block ?_) (by kernel_rfl) (by kernel_rfl) ⟨eqp_mono _, eqp_mono _, eqp_mono _, eqp_mono _, eqp_mono _, eqp_mono _, eqp_mono _, eqp_mono _, eqp_mono _, eqp_mono _, eqp_mono _, eqp_mono _, eqp_mono _, eqp_mono _, eqp_mono _, eqp_mono _, eqp_mono _, eqp_mono _, eqp_mono _, eqp_mono _, eqp_mono _, eqp_mono _, eqp_mono _, eqp_mono _, eqp_mono _, eqp_mono _, eqp_mono _, eqp_mono _, eqp_mono _, eqp_mono _, eqp_mono _, eqp_mono _, eqp_mono _, eqp_mono _, eqp_mono _, eqp_mono _, eqp_mono _, eqp_mono _, eqp_mono _, eqp_mono _, eqp_mono _, eqp_mono _, eqp_mono _, eqp_mono _, trivial⟩
         case hop =>
          refine ⟨?_, ?_⟩
          · rintro - w340 D340
            show OpOK _ _ _ _ _ _ _
            exact ok_pure (ro_move (v := .int _ _) rfl) rfl
          refine ⟨?_, ?_⟩
          · rintro - w341 D341
            rintro _ rfl
            show OpOK _ _ _ _ _ _ _
            exact ok_pure (ro_bt (ro_gtr rfl rfl) (decide_eq_true (by omega))) rfl
          refine ⟨?_, ?_⟩
          · rintro - w342 D342
            rintro _ rfl
            show OpOK _ _ _ _ _ _ _
            exact ok_pure (ro_move (v := .bool _) rfl) rfl
          refine ⟨?_, ?_⟩
          · rintro - w343 D343
            rintro _ rfl
            show OpOK _ _ _ _ _ _ _
            exact ok_gpure rfl (ro_move (v := .slice _ _ _) rfl) rfl
          refine ⟨?_, ?_⟩
          · rintro - w344 D344
            rintro _ rfl
            show OpOK _ _ _ _ _ _ _
            exact ok_gpure rfl (ro_move (v := .int _ _) rfl) rfl
          refine ⟨?_, ?_⟩
          · rintro - w345 D345
            rintro _ rfl _ rfl
            show OpOK _ _ _ _ _ _ _
            exact ok_gpure rfl (ro_subN (b := 1) rfl rfl (by omega)) rfl
          refine ⟨?_, ?_⟩
          · rintro - w346 D346
            rintro _ rfl _ rfl _ rfl
            show OpOK _ _ _ _ _ _ _
            exact ok_gpure rfl (ro_indexAddrN SegLawH_e32 rfl rfl (by omega)) rfl
          refine ⟨?_, ?_⟩
          · rintro - w347 D347
            rintro _ rfl _ rfl
            show OpOK _ _ _ _ _ _ _
            exact ok_gpure rfl (ro_fieldAddr SegLawH_f63_0 rfl) rfl
          refine ⟨?_, ?_⟩
          · rintro - w348 D348
            rintro _ rfl _ rfl
            show OpOK _ _ _ _ _ _ _
            exact ok_gpure rfl (ro_load (v := .string ((segH ds q).getD (k - 1) dh).1) SegLawH_g9 rfl (cellF (((From.rfl_.next E66).next D292).next D348) ((hcp (by omega)) 0 _ rfl))) rfl
          refine ⟨?_, ?_⟩
          · rintro - w349 D349
            rintro _ rfl
            show OpOK _ _ _ _ _ _ _
            exact ok_gpure rfl (ro_move (v := .slice _ _ _) rfl) rfl
          refine ⟨?_, ?_⟩
          · rintro - w350 D350
            rintro _ rfl
            show OpOK _ _ _ _ _ _ _
            exact ok_gpure rfl (ro_move (v := .int _ _) rfl) rfl
          refine ⟨?_, ?_⟩
          · rintro - w351 D351
            rintro _ rfl _ rfl _ rfl
            show OpOK _ _ _ _ _ _ _
            exact ok_gpure rfl (ro_indexAddrN SegLawH_e32 rfl rfl (by omega)) rfl
          refine ⟨?_, ?_⟩
          · rintro - w352 D352
            rintro _ rfl _ rfl
            show OpOK _ _ _ _ _ _ _
            exact ok_gpure rfl (ro_fieldAddr SegLawH_f63_0 rfl) rfl
          refine ⟨?_, ?_⟩
          · rintro - w353 D353
            rintro _ rfl _ rfl
            show OpOK _ _ _ _ _ _ _
            exact ok_gpure rfl (ro_load (v := .string ((segH ds q).getD k dh).1) SegLawH_g9 rfl (cellF (((From.rfl_.next E66).next D292).next D353) (hch 0 _ rfl))) rfl
          refine ⟨?_, ?_⟩
          · rintro - w354 D354
            rintro _ rfl v354_132 rfl v354_137 rfl
            show OpOK _ _ _ _ _ _ _
            exact ok_gpure rfl (ro_bf (ro_gtrS rfl rfl) (by rw [(sLt_dec _ _).2 hlt]; rfl)) rfl
          refine ⟨?_, ?_⟩
          · rintro - w355 D355
            rintro _ rfl _ rfl
            show OpOK _ _ _ _ _ _ _
            exact ok_gpure rfl (ro_move (v := .bool _) rfl) rfl
          refine ⟨?_, ?_⟩
          · rintro - w356 D356
            rintro _ rfl
            show OpOK _ _ _ _ _ _ _
            exact ok_gpure rfl (ro_move (v := .slice _ _ _) rfl) rfl
          refine ⟨?_, ?_⟩
          · rintro - w357 D357
            rintro _ rfl
            show OpOK _ _ _ _ _ _ _
            exact ok_gpure rfl (ro_move (v := .int _ _) rfl) rfl
          refine ⟨?_, ?_⟩
          · rintro - w358 D358
            rintro _ rfl _ rfl
            show OpOK _ _ _ _ _ _ _
            exact ok_gpure rfl (ro_subN (b := 1) rfl rfl (by omega)) rfl
          refine ⟨?_, ?_⟩
          · rintro - w359 D359
            rintro _ rfl _ rfl _ rfl
            show OpOK _ _ _ _ _ _ _
            exact ok_gpure rfl (ro_indexAddrN SegLawH_e32 rfl rfl (by omega)) rfl
          refine ⟨?_, ?_⟩
          · rintro - w360 D360
            rintro _ rfl _ rfl
            show OpOK _ _ _ _ _ _ _
            exact ok_gpure rfl (ro_fieldAddr SegLawH_f63_0 rfl) rfl
          refine ⟨?_, ?_⟩
          · rintro - w361 D361
            rintro _ rfl _ rfl
            show OpOK _ _ _ _ _ _ _
            exact ok_gpure rfl (ro_load (v := .string ((segH ds q).getD (k - 1) dh).1) SegLawH_g9 rfl (cellF (((From.rfl_.next E66).next D292).next D361) ((hcp (by omega)) 0 _ rfl))) rfl
          refine ⟨?_, ?_⟩
          · rintro - w362 D362
            rintro _ rfl
            show OpOK _ _ _ _ _ _ _
            exact ok_gpure rfl (ro_move (v := .slice _ _ _) rfl) rfl
          refine ⟨?_, ?_⟩
          · rintro - w363 D363
            rintro _ rfl
            show OpOK _ _ _ _ _ _ _
            exact ok_gpure rfl (ro_move (v := .int _ _) rfl) rfl
          refine ⟨?_, ?_⟩
          · rintro - w364 D364
            rintro _ rfl _ rfl _ rfl
            show OpOK _ _ _ _ _ _ _
            exact ok_gpure rfl (ro_indexAddrN SegLawH_e32 rfl rfl (by omega)) rfl
          refine ⟨?_, ?_⟩
          · rintro - w365 D365
            rintro _ rfl _ rfl
            show OpOK _ _ _ _ _ _ _
            exact ok_gpure rfl (ro_fieldAddr SegLawH_f63_0 rfl) rfl
          refine ⟨?_, ?_⟩
          · rintro - w366 D366
            rintro _ rfl _ rfl
            show OpOK _ _ _ _ _ _ _
            exact ok_gpure rfl (ro_load (v := .string ((segH ds q).getD k dh).1) SegLawH_g9 rfl (cellF (((From.rfl_.next E66).next D292).next D366) (hch 0 _ rfl))) rfl
          refine ⟨?_, ?_⟩
          · rintro - w367 D367
            rintro _ rfl v367_145 rfl v367_150 rfl
            show OpOK _ _ _ _ _ _ _
            exact ok_gpure rfl (ro_bf (ro_eqlS rfl rfl) (str_ne.2 (fun e => by rw [e] at hlt; exact sLt_irrefl _ hlt))) rfl
          refine ⟨?_, ?_⟩
          · rintro - w368 D368
            rintro _ rfl _ rfl
            show OpOK _ _ _ _ _ _ _
            exact ok_gpure rfl (ro_move (v := .bool _) rfl) rfl
          refine ⟨?_, ?_⟩
          · rintro - w369 D369
            rintro _ rfl
            show OpOK _ _ _ _ _ _ _
            exact ok_gno rfl rfl rfl
          refine ⟨?_, ?_⟩
          · rintro - w370 D370
            rintro _ rfl
            show OpOK _ _ _ _ _ _ _
            exact ok_gno rfl rfl rfl
          refine ⟨?_, ?_⟩
          · rintro - w371 D371
            rintro _ rfl _ rfl
            show OpOK _ _ _ _ _ _ _
            exact ok_gno rfl rfl rfl
          refine ⟨?_, ?_⟩
          · rintro - w372 D372
            rintro _ rfl _ rfl _ rfl
            show OpOK _ _ _ _ _ _ _
            exact ok_gno rfl rfl rfl
          refine ⟨?_, ?_⟩
          · rintro - w373 D373
            rintro _ rfl _ rfl
            show OpOK _ _ _ _ _ _ _
            exact ok_gno rfl rfl rfl
          refine ⟨?_, ?_⟩
          · rintro - w374 D374
            rintro _ rfl _ rfl
            show OpOK _ _ _ _ _ _ _
            exact ok_gno rfl rfl rfl
          refine ⟨?_, ?_⟩
          · rintro - w375 D375
            rintro _ rfl
            show OpOK _ _ _ _ _ _ _
            exact ok_gno rfl rfl rfl
          refine ⟨?_, ?_⟩
          · rintro - w376 D376
            rintro _ rfl
            show OpOK _ _ _ _ _ _ _
            exact ok_gno rfl rfl rfl
          refine ⟨?_, ?_⟩
          · rintro - w377 D377
            rintro _ rfl _ rfl _ rfl
            show OpOK _ _ _ _ _ _ _
            exact ok_gno rfl rfl rfl
          refine ⟨?_, ?_⟩
          · rintro - w378 D378
            rintro _ rfl _ rfl
            show OpOK _ _ _ _ _ _ _
            exact ok_gno rfl rfl rfl
          refine ⟨?_, ?_⟩
          · rintro - w379 D379
            rintro _ rfl _ rfl
            show OpOK _ _ _ _ _ _ _
            exact ok_gno rfl rfl rfl
          refine ⟨?_, ?_⟩
          · rintro - w380 D380
            rintro _ rfl _ rfl _ rfl
            show OpOK _ _ _ _ _ _ _
            exact ok_gno rfl rfl rfl
          refine ⟨?_, ?_⟩
          · rintro - w381 D381
            rintro _ rfl _ rfl _ rfl
            show OpOK _ _ _ _ _ _ _
            exact ok_gpure rfl (ro_pickF (v := .bool _) rfl rfl) rfl
          refine ⟨?_, ?_⟩
          · rintro - w382 D382
            rintro _ rfl _ rfl _ rfl
            show OpOK _ _ _ _ _ _ _
            exact ok_gpure rfl (ro_pickF (v := .bool _) rfl rfl) rfl
          refine ⟨?_, ?_⟩
          · rintro - w383 D383
            rintro _ rfl _ rfl
            show OpOK _ _ _ _ _ _ _
            exact ok_pure (ro_pickT (v := .bool _) rfl rfl) rfl
          exact trivial
         case hend =>
          intro w384 D384
          rintro _ rfl _ rfl _ rfl _ rfl _ rfl _ rfl _ rfl _ rfl v132 rfl _ rfl _ rfl _ rfl _ rfl v137 rfl _ rfl _ rfl _ rfl _ rfl _ rfl _ rfl _ rfl v145 rfl _ rfl _ rfl _ rfl _ rfl v150 rfl _ rfl _ rfl _ rfl _ rfl _ rfl _ rfl _ rfl _ rfl _ rfl _ rfl _ rfl _ rfl _ rfl _ rfl _ rfl _ rfl _ rfl
          show St _ _ _ _ _ _ _
          refine st_nil (nx_then ?_)
          refine cd_condF rfl ?_
          refine cd_skip (nx_block (nx_then (cd_region ?_)))
          refine mvi rfl ?_
          refine st_val (ro_add64 rfl rfl (by omega)) ?_
          refine asi rfl ?_
          refine st_nil ?_
          refine nx_cut (k + 1) ⟨(by first | rfl | (refine int_eq ?_; omega)), trivial⟩ (by (iterate 237 refine agr_cons rfl ?_); exact agr_rfl) ⟨?_, ?_⟩
          · exact ⟨by omega, hr47.from_ (((From.rfl_.next E66).next D292).next D384), hBz.next (((From.rfl_.next E66).next D292).next D384)⟩
          · show (segH ds q).length - (k + 1) < (segH ds q).length - k; omega
       apply cd_drawnD 44 [(124, eqp _), (125, eqp _), (126, eqp _), (127, eqp _), (128, eqp _), (129, eqp _), (130, eqp _), (131, eqp _), (132, eqp (.string ((segH ds q).getD (k - 1) dh).1)), (133, eqp _), (134, eqp _), (135, eqp _), (136, eqp _), (137, eqp (.string ((segH ds q).getD k dh).1)), (138, eqp _), (139, eqp _), (140, eqp _), (141, eqp _), (142, eqp _), (143, eqp _), (144, eqp _), (145, eqp (.string ((segH ds q).getD (k - 1) dh).1)), (146, eqp _), (147, eqp _), (148, eqp _), (149, eqp _), (150, eqp (.string ((segH ds q).getD k dh).1)), (151, eqp _), (152, eqp _), (153, eqp _), (154, eqp _), (155, eqp _), (156, eqp _), (157, eqp _), (158, eqp (.int .i64 ((segH ds q).getD (k - 1) dh).2)), (159, eqp _), (160, eqp _), (161, eqp _), (162, eqp _), (163, eqp (.int .i64 ((segH ds q).getD k dh).2)), (164, eqp _), (165, eqp _), (166, eqp _), (167, eqp _)] (by repeat first | exact pq_body | refine pq_then ?_ | refine pq_block ?_) (by kernel_rfl) (by kernel_rfl) ⟨eqp_mono _, eqp_mono _, eqp_mono _, eqp_mono _, eqp_mono _, eqp_mono _, eqp_mono _, eqp_mono _, eqp_mono _, eqp_mono _, eqp_mono _, eqp_mono _, eqp_mono _, eqp_mono _, eqp_mono _, eqp_mono _, eqp_mono _, eqp_mono _, eqp_mono _, eqp_mono _, eqp_mono _, eqp_mono _, eqp_mono _, eqp_mono _, eqp_mono _, eqp_mono _, eqp_mono _, eqp_mono _, eqp_mono _, eqp_mono _, eqp_mono _, eqp_mono _, eqp_mono _, eqp_mono _, eqp_mono _, eqp_mono _, eqp_mono _, eqp_mono _, eqp_mono _, eqp_mono _, eqp_mono _, eqp_mono _, eqp_mono _, eqp_mono _, trivial⟩
       case hop =>
        refine ⟨?_, ?_⟩
        · rintro - w386 D386
          show OpOK _ _ _ _ _ _ _
          exact ok_pure (ro_move (v := .int _ _) rfl) rfl
        refine ⟨?_, ?_⟩
        · rintro - w387 D387
          rintro _ rfl
          show OpOK _ _ _ _ _ _ _
          exact ok_pure (ro_bt (ro_gtr rfl rfl) (decide_eq_true (by omega))) rfl
        refine ⟨?_, ?_⟩
        · rintro - w388 D388
          rintro _ rfl
          show OpOK _ _ _ _ _ _ _
          exact ok_pure (ro_move (v := .bool _) rfl) rfl
        refine ⟨?_, ?_⟩
        · rintro - w389 D389
          rintro _ rfl
          show OpOK _ _ _ _ _ _ _
          exact ok_gpure rfl (ro_move (v := .slice _ _ _) rfl) rfl
        refine ⟨?_, ?_⟩
        · rintro - w390 D390
          rintro _ rfl
          show OpOK _ _ _ _ _ _ _
          exact ok_gpure rfl (ro_move (v := .int _ _) rfl) rfl
        refine ⟨?_, ?_⟩
        · rintro - w391 D391
          rintro _ rfl _ rfl
          show OpOK _ _ _ _ _ _ _
          exact ok_gpure rfl (ro_subN (b := 1) rfl rfl (by omega)) rfl
        refine ⟨?_, ?_⟩
        · rintro - w392 D392
          rintro _ rfl _ rfl _ rfl
          show OpOK _ _ _ _ _ _ _
          exact ok_gpure rfl (ro_indexAddrN SegLawH_e32 rfl rfl (by omega)) rfl
        refine ⟨?_, ?_⟩
        · rintro - w393 D393
          rintro _ rfl _ rfl
          show OpOK _ _ _ _ _ _ _
          exact ok_gpure rfl (ro_fieldAddr SegLawH_f63_0 rfl) rfl
        refine ⟨?_, ?_⟩
        · rintro - w394 D394
          rintro _ rfl _ rfl
          show OpOK _ _ _ _ _ _ _
          exact ok_gpure rfl (ro_load (v := .string ((segH ds q).getD (k - 1) dh).1) SegLawH_g9 rfl (cellF (((From.rfl_.next E66).next D292).next D394) ((hcp (by omega)) 0 _ rfl))) rfl
        refine ⟨?_, ?_⟩
        · rintro - w395 D395
          rintro _ rfl
          show OpOK _ _ _ _ _ _ _
          exact ok_gpure rfl (ro_move (v := .slice _ _ _) rfl) rfl
        refine ⟨?_, ?_⟩
        · rintro - w396 D396
          rintro _ rfl
          show OpOK _ _ _ _ _ _ _
          exact ok_gpure rfl (ro_move (v := .int _ _) rfl) rfl
        refine ⟨?_, ?_⟩
        · rintro - w397 D397
          rintro _ rfl _ rfl _ rfl
          show OpOK _ _ _ _ _ _ _
          exact ok_gpure rfl (ro_indexAddrN SegLawH_e32 rfl rfl (by omega)) rfl
        refine ⟨?_, ?_⟩
        · rintro - w398 D398
          rintro _ rfl _ rfl
          show OpOK _ _ _ _ _ _ _
          exact ok_gpure rfl (ro_fieldAddr SegLawH_f63_0 rfl) rfl
        refine ⟨?_, ?_⟩
        · rintro - w399 D399
          rintro _ rfl _ rfl
          show OpOK _ _ _ _ _ _ _
          exact ok_gpure rfl (ro_load (v := .string ((segH ds q).getD k dh).1) SegLawH_g9 rfl (cellF (((From.rfl_.next E66).next D292).next D399) (hch 0 _ rfl))) rfl
        refine ⟨?_, ?_⟩
        · rintro - w400 D400
          rintro _ rfl v400_132 rfl v400_137 rfl
          show OpOK _ _ _ _ _ _ _
          exact ok_gpure rfl (ro_bf (ro_gtrS rfl rfl) (by rw [str_eq.2 heq, Bool.or_true]; rfl)) rfl
        refine ⟨?_, ?_⟩
        · rintro - w401 D401
          rintro _ rfl _ rfl
          show OpOK _ _ _ _ _ _ _
          exact ok_gpure rfl (ro_move (v := .bool _) rfl) rfl
        refine ⟨?_, ?_⟩
        · rintro - w402 D402
          rintro _ rfl
          show OpOK _ _ _ _ _ _ _
          exact ok_gpure rfl (ro_move (v := .slice _ _ _) rfl) rfl
        refine ⟨?_, ?_⟩
        · rintro - w403 D403
          rintro _ rfl
          show OpOK _ _ _ _ _ _ _
          exact ok_gpure rfl (ro_move (v := .int _ _) rfl) rfl
        refine ⟨?_, ?_⟩
        · rintro - w404 D404
          rintro _ rfl _ rfl
          show OpOK _ _ _ _ _ _ _
          exact ok_gpure rfl (ro_subN (b := 1) rfl rfl (by omega)) rfl
        refine ⟨?_, ?_⟩
        · rintro - w405 D405
          rintro _ rfl _ rfl _ rfl
          show OpOK _ _ _ _ _ _ _
          exact ok_gpure rfl (ro_indexAddrN SegLawH_e32 rfl rfl (by omega)) rfl
        refine ⟨?_, ?_⟩
        · rintro - w406 D406
          rintro _ rfl _ rfl
          show OpOK _ _ _ _ _ _ _
          exact ok_gpure rfl (ro_fieldAddr SegLawH_f63_0 rfl) rfl
        refine ⟨?_, ?_⟩
        · rintro - w407 D407
          rintro _ rfl _ rfl
          show OpOK _ _ _ _ _ _ _
          exact ok_gpure rfl (ro_load (v := .string ((segH ds q).getD (k - 1) dh).1) SegLawH_g9 rfl (cellF (((From.rfl_.next E66).next D292).next D407) ((hcp (by omega)) 0 _ rfl))) rfl
        refine ⟨?_, ?_⟩
        · rintro - w408 D408
          rintro _ rfl
          show OpOK _ _ _ _ _ _ _
          exact ok_gpure rfl (ro_move (v := .slice _ _ _) rfl) rfl
        refine ⟨?_, ?_⟩
        · rintro - w409 D409
          rintro _ rfl
          show OpOK _ _ _ _ _ _ _
          exact ok_gpure rfl (ro_move (v := .int _ _) rfl) rfl
        refine ⟨?_, ?_⟩
        · rintro - w410 D410
          rintro _ rfl _ rfl _ rfl
          show OpOK _ _ _ _ _ _ _
          exact ok_gpure rfl (ro_indexAddrN SegLawH_e32 rfl rfl (by omega)) rfl
        refine ⟨?_, ?_⟩
        · rintro - w411 D411
          rintro _ rfl _ rfl
          show OpOK _ _ _ _ _ _ _
          exact ok_gpure rfl (ro_fieldAddr SegLawH_f63_0 rfl) rfl
        refine ⟨?_, ?_⟩
        · rintro - w412 D412
          rintro _ rfl _ rfl
          show OpOK _ _ _ _ _ _ _
          exact ok_gpure rfl (ro_load (v := .string ((segH ds q).getD k dh).1) SegLawH_g9 rfl (cellF (((From.rfl_.next E66).next D292).next D412) (hch 0 _ rfl))) rfl
        refine ⟨?_, ?_⟩
        · rintro - w413 D413
          rintro _ rfl v413_145 rfl v413_150 rfl
          show OpOK _ _ _ _ _ _ _
          exact ok_gpure rfl (ro_bt (ro_eqlS rfl rfl) (str_eq.2 heq)) rfl
        refine ⟨?_, ?_⟩
        · rintro - w414 D414
          rintro _ rfl _ rfl
          show OpOK _ _ _ _ _ _ _
          exact ok_gpure rfl (ro_move (v := .bool _) rfl) rfl
        refine ⟨?_, ?_⟩
        · rintro - w415 D415
          rintro _ rfl
          show OpOK _ _ _ _ _ _ _
          exact ok_gpure rfl (ro_move (v := .slice _ _ _) rfl) rfl
        refine ⟨?_, ?_⟩
        · rintro - w416 D416
          rintro _ rfl
          show OpOK _ _ _ _ _ _ _
          exact ok_gpure rfl (ro_move (v := .int _ _) rfl) rfl
        refine ⟨?_, ?_⟩
        · rintro - w417 D417
          rintro _ rfl _ rfl
          show OpOK _ _ _ _ _ _ _
          exact ok_gpure rfl (ro_subN (b := 1) rfl rfl (by omega)) rfl
        refine ⟨?_, ?_⟩
        · rintro - w418 D418
          rintro _ rfl _ rfl _ rfl
          show OpOK _ _ _ _ _ _ _
          exact ok_gpure rfl (ro_indexAddrN SegLawH_e32 rfl rfl (by omega)) rfl
        refine ⟨?_, ?_⟩
        · rintro - w419 D419
          rintro _ rfl _ rfl
          show OpOK _ _ _ _ _ _ _
          exact ok_gpure rfl (ro_fieldAddr SegLawH_f63_1 rfl) rfl
        refine ⟨?_, ?_⟩
        · rintro - w420 D420
          rintro _ rfl _ rfl
          show OpOK _ _ _ _ _ _ _
          exact ok_gpure rfl (ro_load (v := .int .i64 ((segH ds q).getD (k - 1) dh).2) SegLawH_g3 rfl (cellF (((From.rfl_.next E66).next D292).next D420) ((hcp (by omega)) 1 _ rfl))) rfl
        refine ⟨?_, ?_⟩
        · rintro - w421 D421
          rintro _ rfl
          show OpOK _ _ _ _ _ _ _
          exact ok_gpure rfl (ro_move (v := .slice _ _ _) rfl) rfl
        refine ⟨?_, ?_⟩
        · rintro - w422 D422
          rintro _ rfl
          show OpOK _ _ _ _ _ _ _
          exact ok_gpure rfl (ro_move (v := .int _ _) rfl) rfl
        refine ⟨?_, ?_⟩
        · rintro - w423 D423
          rintro _ rfl _ rfl _ rfl
          show OpOK _ _ _ _ _ _ _
          exact ok_gpure rfl (ro_indexAddrN SegLawH_e32 rfl rfl (by omega)) rfl
        refine ⟨?_, ?_⟩
        · rintro - w424 D424
          rintro _ rfl _ rfl
          show OpOK _ _ _ _ _ _ _
          exact ok_gpure rfl (ro_fieldAddr SegLawH_f63_1 rfl) rfl
        refine ⟨?_, ?_⟩
        · rintro - w425 D425
          rintro _ rfl _ rfl
          show OpOK _ _ _ _ _ _ _
          exact ok_gpure rfl (ro_load (v := .int .i64 ((segH ds q).getD k dh).2) SegLawH_g3 rfl (cellF (((From.rfl_.next E66).next D292).next D425) (hch 1 _ rfl))) rfl
        refine ⟨?_, ?_⟩
        · rintro - w426 D426
          rintro _ rfl v426_158 rfl v426_163 rfl
          show OpOK _ _ _ _ _ _ _
          exact ok_gpure rfl (ro_bf (ro_geq rfl rfl) (decide_eq_false (by omega))) rfl
        refine ⟨?_, ?_⟩
        · rintro - w427 D427
          rintro _ rfl _ rfl _ rfl
          show OpOK _ _ _ _ _ _ _
          exact ok_gpure rfl (ro_pickT (v := .bool _) rfl rfl) rfl
        refine ⟨?_, ?_⟩
        · rintro - w428 D428
          rintro _ rfl _ rfl _ rfl
          show OpOK _ _ _ _ _ _ _
          exact ok_gpure rfl (ro_pickF (v := .bool _) rfl rfl) rfl
        refine ⟨?_, ?_⟩
        · rintro - w429 D429
          rintro _ rfl _ rfl
          show OpOK _ _ _ _ _ _ _
          exact ok_pure (ro_pickT (v := .bool _) rfl rfl) rfl
        exact trivial
       case hend =>
        intro w430 D430
        rintro _ rfl _ rfl _ rfl _ rfl _ rfl _ rfl _ rfl _ rfl v132 rfl _ rfl _ rfl _ rfl _ rfl v137 rfl _ rfl _ rfl _ rfl _ rfl _ rfl _ rfl _ rfl v145 rfl _ rfl _ rfl _ rfl _ rfl v150 rfl _ rfl _ rfl _ rfl _ rfl _ rfl _ rfl _ rfl v158 rfl _ rfl _ rfl _ rfl _ rfl v163 rfl _ rfl _ rfl _ rfl _ rfl
        show St _ _ _ _ _ _ _
        refine st_nil (nx_then ?_)
        refine cd_condF rfl ?_
        refine cd_skip (nx_block (nx_then (cd_region ?_)))
        refine mvi rfl ?_
        refine st_val (ro_add64 rfl rfl (by omega)) ?_
        refine asi rfl ?_
        refine st_nil ?_
        refine nx_cut (k + 1) ⟨(by first | rfl | (refine int_eq ?_; omega)), trivial⟩ (by (iterate 237 refine agr_cons rfl ?_); exact agr_rfl) ⟨?_, ?_⟩
        · exact ⟨by omega, hr47.from_ (((From.rfl_.next E66).next D292).next D430), hBz.next (((From.rfl_.next E66).next D292).next D430)⟩
        · show (segH ds q).length - (k + 1) < (segH ds q).length - k; omega
    with_reducible replace Q234 := of_decide_eq_false Q234
    refine cd_exit ?_
    refine ex_then (ex_then (ex_block (nx_block (nx_then (cd_region ?_)))))
    refine mvi rfl ?_
    refine st_val (ro_add64 rfl rfl (by omega)) ?_
    refine asi rfl ?_
    refine st_nil ?_
    refine nx_cut (i + 1) ⟨(by first | rfl | (refine int_eq ?_; omega)), trivial⟩ (by (iterate 289 refine agr_cons rfl ?_); exact agr_rfl) ⟨?_, ?_⟩
    · exact ⟨by omega, hBz.next From.rfl_⟩
    · show ps.length - (i + 1) < ps.length - i; omega
  with_reducible replace Q229 := of_decide_eq_false Q229
  refine cd_exit ?_
  refine ex_then (ex_then (ex_block (nx_then (cd_seq (cd_seq (cd_region ?_))))))
  refine asi rfl ?_
  refine st_nil (nx_then (cd_block ?_))
  refine cd_loop (G := Nat) [2, 12, 13, 14, 15, 16, 168, 169, 170, 171, 172, 173, 174, 175, 176, 177, 178, 179, 180, 181, 182, 183, 184, 185, 186, 187, 188, 189, 190, 191, 192, 193, 194, 195, 196, 197, 198, 199, 200, 201, 202, 203, 204, 205, 206, 207, 208, 209, 210, 211, 212, 213, 214, 215, 216, 217, 218, 219, 220] (fun b => [(11, .int .i64 (b : Nat))]) (fun b w' => b ≤ 272 ∧ From W2 w') (fun b => 256 - b) (0) ⟨rfl, trivial⟩ ?_ ?_
  · exact ⟨by omega, hBz.next From.rfl_⟩
  rintro b ρ431 w431 ⟨hb, hBz⟩
  refine cd_seq (cd_seq (cd_region ?_))
  refine mvi rfl ?_
  refine st_val (ro_lss rfl rfl) ?_
  refine st_nil (nx_then ?_)
  refine cd_cond rfl (fun Q432 => ?_) (fun Q432 => ?_)
  · with_reducible replace Q432 := of_decide_eq_true Q432
    refine cd_skip (nx_then (cd_seq (cd_block (cd_seq (cd_region ?_)))))
    refine asi rfl ?_
    refine st_nil (nx_then (cd_seq (cd_seq (cd_region ?_))))
    refine asi rfl ?_
    refine st_nil (nx_then (cd_block ?_))
    refine cd_loop (G := Nat) [14, 172, 173, 174, 175, 176, 177, 178, 179, 180, 181, 182, 183, 184, 185, 186, 187, 188, 189, 190, 191, 192, 193, 194, 195, 196, 197, 198, 199, 200, 201, 202] (fun i => [(12, .int .i64 (((syms (ds.take i)).count (b + 1) : Nat) : Int)), (13, .int .i64 (i : Nat))]) (fun i w' => i ≤ ds.length ∧ From W2 w') (fun i => ds.length - i) (0) ⟨rfl, rfl, trivial⟩ ?_ ?_
    · exact ⟨Nat.zero_le _, hBz.next From.rfl_⟩
    rintro i ρ433 w433 ⟨hi, hBz⟩
    refine cd_seq (cd_seq (cd_region ?_))
    refine mvi rfl ?_
    refine st_val (ro_fieldAddr SegLawH_f25_0 rfl) ?_
    refine st_val (ro_load SegLawH_g22 rfl (by first | (first | exact (hk2.from_ (hBz.next From.rfl_)).whole | exact (hk2.from_ (hBz.next From.rfl_)).rd 0 rfl | exact (hk2.from_ (hBz.next From.rfl_)).rd 1 rfl) | (first | exact (hk1.from_ From.rfl_).whole | exact (hk1.from_ From.rfl_).rd 0 rfl | exact (hk1.from_ From.rfl_).rd 1 rfl | exact (hk1.from_ From.rfl_).rd 2 rfl))) ?_
    refine st_val (ro_len SegLawH_l22 rfl) ?_
    refine st_val (ro_lss rfl rfl) ?_
    refine st_nil (nx_then ?_)
    refine cd_cond rfl (fun Q434 => ?_) (fun Q434 => ?_)
    · with_reducible replace Q434 := of_decide_eq_true Q434
      obtain ⟨bd, od, rfl, hcd⟩ := ha.row (by omega)
      have hil : i < ds.length := by omega
      have hcx := hcd i hil
      rw [← getD_get hil] at hcx
      have hds := hfit.2.1 (ds.getD i dd) (by rw [getD_get hil]; exact List.getElem_mem hil)
      have hcl := cnt_le (ds := ds) (i := i) (c := b + 1)
      refine cd_skip (nx_then (cd_seq (cd_block (cd_seq (cd_region ?_)))))
      refine asi rfl ?_
      refine st_nil (nx_then (cd_block ?_))
      refine cd_loop (G := Nat) [179, 180, 181, 182, 183, 184, 185, 186, 187, 188, 189, 190, 191, 192, 193, 194, 195, 196, 197, 198, 199, 200, 201, 202] (fun k => [(12, .int .i64 (((syms (ds.take i)).count (b + 1) + ((txt (ds.getD i dd).2).take k).count (b + 1) : Nat) : Int)), (14, .int .i64 (k : Nat))]) (fun k w' => k ≤ (ds.getD i dd).2.size ∧ From W2 w') (fun k => (ds.getD i dd).2.size - k) (0) ⟨rfl, rfl, trivial⟩ ?_ ?_
      · exact ⟨Nat.zero_le _, hBz.next From.rfl_⟩
      rintro k ρ435 w435 ⟨hk, hBz⟩
      refine cd_seq (cd_seq (cd_region ?_))
      refine mvi rfl ?_
      refine st_val (ro_fieldAddr SegLawH_f25_0 rfl) ?_
      refine st_val (ro_load SegLawH_g22 rfl (by first | (first | exact (hk2.from_ (hBz.next From.rfl_)).whole | exact (hk2.from_ (hBz.next From.rfl_)).rd 0 rfl | exact (hk2.from_ (hBz.next From.rfl_)).rd 1 rfl) | (first | exact (hk1.from_ From.rfl_).whole | exact (hk1.from_ From.rfl_).rd 0 rfl | exact (hk1.from_ From.rfl_).rd 1 rfl | exact (hk1.from_ From.rfl_).rd 2 rfl))) ?_
      refine mvi rfl ?_
      refine st_val (ro_indexAddrN SegLawH_e22 rfl rfl (by omega)) ?_
      refine st_val (ro_fieldAddr SegLawH_f65_1 rfl) ?_
      refine st_val (ro_load SegLawH_g9 rfl (by exact cellF (hB2.next hBz) (hcx 1 _ rfl))) ?_
      refine st_val (ro_lenS (by kernel_rfl) rfl) ?_
      refine st_val (ro_lss rfl rfl) ?_
      refine st_nil (nx_then ?_)
      refine cd_cond rfl (fun Q436 => ?_) (fun Q436 => ?_)
      · with_reducible replace Q436 := of_decide_eq_true Q436
        obtain ⟨u, hu, htu, _⟩ := str_at (s := (ds.getD i dd).2) (i := k) (by omega)
        have hub := u.toNat_lt
        have hkl := List.count_le_length (a := b + 1) (l := (txt (ds.getD i dd).2).take k)
        rw [txt_takeL (by omega)] at hkl
        refine cd_skip (nx_then ?_)
        refine cd_cut (G := Unit) [190, 191, 192, 193, 194, 195, 196, 197, 198, 199, 200, 201, 202] (fun _ => [(12, .int .i64 (((syms (ds.take i)).count (b + 1) + ((txt (ds.getD i dd).2).take (k + 1)).count (b + 1) : Nat) : Int))]) (fun _ w' => From W2 w') ?_ ?_
        · refine cd_block (cd_seq (cd_region ?_))
          refine st_val (ro_fieldAddr SegLawH_f25_0 rfl) ?_
          refine st_val (ro_load SegLawH_g22 rfl (by first | (first | exact (hk2.from_ (hBz.next From.rfl_)).whole | exact (hk2.from_ (hBz.next From.rfl_)).rd 0 rfl | exact (hk2.from_ (hBz.next From.rfl_)).rd 1 rfl) | (first | exact (hk1.from_ From.rfl_).whole | exact (hk1.from_ From.rfl_).rd 0 rfl | exact (hk1.from_ From.rfl_).rd 1 rfl | exact (hk1.from_ From.rfl_).rd 2 rfl))) ?_
          refine mvi rfl ?_
          refine st_val (ro_indexAddrN SegLawH_e22 rfl rfl (by omega)) ?_
          refine st_val (ro_fieldAddr SegLawH_f65_1 rfl) ?_
          refine st_val (ro_load SegLawH_g9 rfl (by exact cellF (hB2.next hBz) (hcx 1 _ rfl))) ?_
          refine mvi rfl ?_
          refine st_val (ro_indexS (by kernel_rfl) rfl rfl (by omega) hu) ?_
          refine st_val (ro_convI SegLawH_s5 SegLawH_i3 rfl (by omega)) ?_
          refine mvi rfl ?_
          refine st_val (ro_eql rfl rfl) ?_
          refine st_nil (nx_then ?_)
          refine cd_cond rfl (fun Q437 => ?_) (fun Q437 => ?_)
          · with_reducible replace Q437 := of_decide_eq_true Q437
            refine cd_region ?_
            refine mvi rfl ?_
            refine st_val (ro_addN (b := 1) rfl rfl (by omega)) ?_
            refine asi rfl ?_
            refine st_nil (nx_block ?_)
            refine nx_cut (()) ⟨(int_eq (by rw [cnt_step (by omega) htu, if_pos (by omega)]; omega)), trivial⟩ (by (iterate 14 refine agr_cons rfl ?_); exact agr_rfl) ?_
            exact hBz.next From.rfl_
          with_reducible replace Q437 := of_decide_eq_false Q437
          refine cd_skip (nx_block ?_)
          refine nx_cut (()) ⟨(int_eq (by rw [cnt_step (by omega) htu, if_neg (by omega)]; omega)), trivial⟩ (by (iterate 11 refine agr_cons rfl ?_); exact agr_rfl) ?_
          exact hBz.next From.rfl_
        rintro _ ρ438 w438 hBz
        refine cd_region ?_
        refine mvi rfl ?_
        refine st_val (ro_add64 rfl rfl (by omega)) ?_
        refine asi rfl ?_
        refine st_nil ?_
        refine nx_cut (k + 1) ⟨(by first | rfl | (refine int_eq ?_; omega)), (by first | rfl | (refine int_eq ?_; omega)), trivial⟩ (by (iterate 52 refine agr_cons rfl ?_); exact agr_rfl) ⟨?_, ?_⟩
        · exact ⟨by omega, hBz.next From.rfl_⟩
        · show (ds.getD i dd).2.size - (k + 1) < (ds.getD i dd).2.size - k; omega
      with_reducible replace Q436 := of_decide_eq_false Q436
      have hka := txt_all (s := (ds.getD i dd).2) (k := k) (by omega)
      refine cd_exit ?_
      refine ex_then (ex_then (ex_block (nx_block (nx_then (cd_region ?_)))))
      refine mvi rfl ?_
      refine st_val (ro_add64 rfl rfl (by omega)) ?_
      refine asi rfl ?_
      refine st_nil ?_
      refine nx_cut (i + 1) ⟨(int_eq (by rw [cnt_doc hil, hka])), rfl, trivial⟩ (by (iterate 78 refine agr_cons rfl ?_); exact agr_rfl) ⟨?_, ?_⟩
      · exact ⟨by omega, hBz.next From.rfl_⟩
      · show ds.length - (i + 1) < ds.length - i; omega
    with_reducible replace Q434 := of_decide_eq_false Q434
    have hdl : ds.take i = ds := List.take_of_length_le (by omega)
    refine cd_exit ?_
    refine ex_then (ex_then (ex_block (nx_then (cd_seq (cd_region ?_)))))
    refine mvp rfl ?_
    refine mvi rfl ?_
    refine st_val (ro_conv8 SegLawH_s3 SegLawH_i5 rfl) ?_
    refine st_spell (t := 206) (v := .int _ _) (v' := .int .u8 ((b : Nat) : Int)) rfl (by rw [Nat.mod_eq_of_lt (by omega)]) ?_
    refine st_lit1 (v := .int _ _) SegLawH_q66 rfl rfl rfl ?_
    intro b207 w439 E207 hb207 hk207
    refine st_val (ro_strB (e := 5) (l := [UInt8.ofNat b]) (by kernel_rfl) (by kernel_rfl) (by kernel_rfl) rfl rfl (byte_one hk207 (by omega))) ?_
    refine st_call SegLawH_k12 (search_rt _ s ds _ (hs2.from_ (hBz.next (From.rfl_.next E207))) ⟨[UInt8.ofNat b].toArray⟩ (by show (1 : Nat) ≤ _; omega)) ?_
    rintro v209 w440 ⟨⟨A209, c209, rfl, ho209⟩, E209⟩
    refine mvt rfl ?_
    refine st_val (ro_extract rfl rfl) ?_
    refine st_val (ro_extract rfl rfl) ?_
    refine ass rfl ?_
    refine asi rfl ?_
    refine st_nil (nx_then (cd_seq (cd_region ?_)))
    refine mvi rfl ?_
    refine st_call SegLawH_k13 (num_any _ _) ?_
    rintro v213 w441 ⟨rfl, rfl⟩
    refine st_val (ro_bf (ro_neq rfl rfl) (by rw [pat_one]; rfl)) ?_
    refine mvb rfl ?_
    refine st_unguard rfl ?_
    refine mvs rfl ?_
    refine st_unguard rfl ?_
    refine st_val (ro_len SegLawH_l32 rfl) ?_
    refine st_unguard rfl ?_
    refine mvi rfl ?_
    refine st_unguard rfl ?_
    refine st_val (ro_bf (ro_neq rfl rfl) (by rw [hits_one (by omega), hdl]; exact bne_self_eq_false _)) ?_
    refine st_val (ro_pickF (v := .bool _) rfl rfl) ?_
    refine st_nil (nx_then ?_)
    refine cd_condF rfl ?_
    refine cd_skip (nx_block (nx_then (cd_region ?_)))
    refine mvi rfl ?_
    refine st_val (ro_add64 rfl rfl (by omega)) ?_
    refine asi rfl ?_
    refine st_nil ?_
    refine nx_cut (b + 17) ⟨(by first | rfl | (refine int_eq ?_; omega)), trivial⟩ (by (iterate 127 refine agr_cons rfl ?_); exact agr_rfl) ⟨?_, ?_⟩
    · exact ⟨by omega, hBz.next ((From.rfl_.next E207).next E209)⟩
    · show 256 - (b + 17) < 256 - b; omega
  with_reducible replace Q432 := of_decide_eq_false Q432
  refine cd_exit ?_
  refine ex_then (ex_then (ex_block (nx_then (cd_seq (cd_region ?_)))))
  refine st_call SegLawH_k9 (wakes_rt _) ?_
  rintro v221 w442 ⟨rfl, E221⟩
  refine asb rfl ?_
  refine st_nil (nx_then (cd_ret ?_))
  refine res1 (v := .bool _) rfl rfl ?_
  exact ⟨rfl, ((hB2.next hBz).next E221)⟩
theorem holds_arg (cs : Array Value) (x : (Ty.pr (Ty.sl docT) (.pr (.sl .str) (.pr (.sl .str) .unit))).den) (w : World) (hs : cs.size = 3) (h : (Ty.pr (Ty.sl docT) (.pr (.sl .str) (.pr (.sl .str) .unit))).At w (fun j => cs[j]?) x) :
    Rt Try.prog 5 [.agg cs] w fun v w' => v = .bool true ∧ From w w' := by
  obtain ⟨A, B, C, ca, cb, cc, ds, ps, ns, rfl, ha, hcap⟩ := ask_of8 hs h
  exact holds_law A B C ca cb cc ds ps ns w ha hcap
theorem SegmentHolds_lifted (os : Os) (started : os.Started) (H : Type) (enc : TypeId × Value → H) :
    ReturnsInHanded {} Try.checked os 5 .any (Rows.segmentHoldsSpec.pre6 enc Try.prog Try.f5 Rows.segmentHoldsRow.domain false) (Rows.segmentHoldsSpec.post enc Try.prog Try.f5 false true false false) := by
  refine returnsInHanded_of_change_sized (C := Try.checked) Try.own started (by kernel_rfl) Try.func5
    (ChangeSpec.witness6 (enc := enc) (C := Try.checked) false ⟨#[], #[.agg #[.slice none 0 0, .slice none 0 0, .slice none 0 0]], []⟩ 8 (by kernel_rfl) (by kernel_rfl) (by kernel_rfl) (by kernel_rfl)) ?_
  intro W base args ds gs before hval hW _ hsz _
  exact law_step 5 Try.f5 25 4 Rows.segmentHoldsSpec Try.params5 (by kernel_rfl) Try.underlying4 rfl (fun _ => rfl) (by kernel_rfl) (of_decide_eq_true (by kernel_rfl)) (walk_struct (Ty.sl docT) (.pr (.sl .str) (.pr (.sl .str) .unit)) (by kernel_rfl) holds_arg) W base args ds gs before hval hW hsz

theorem SegmentHolds_holds : Rows.SegmentHoldsSaid :=
  OpenClaim.holds_of_wide 5 Try.f5 rfl rfl rfl rfl rfl rfl rfl ⟨rfl, rfl, rfl, rfl, rfl⟩ rfl rfl rfl rfl rfl (by kernel_rfl) Try.func5 (by kernel_rfl)
    (of_decide_eq_true (by kernel_rfl)) (by unfold Func.isWrapper; first | (rw [if_pos (by decide +kernel)]; kernel_rfl) | (rw [if_neg (by decide +kernel)]; exact ⟨rfl, rfl⟩))
    (fun os started H enc _ => SegmentHolds_lifted os started H enc)
#print axioms SegmentHolds_holds

end Go.Proofs.Ytllmocjfllbbfaa

namespace Go.Proofs.Ytllmocjfllbbfaa
open Go.RowKit
open Go.ChangeShapes Go.WideShapes Go.ChangeAt
open Go.Proofs.Ytllmocjfllbbfaa.SA
theorem new_ok (A : Option Addr) (c n : Nat) (ds : List Dc) (w : World) (hr : RowK 2 dV w A ds) (hn : n = ds.length) (hl : n ≤ 100000000) (h0 : A = none → n = 0 ∧ c = 0) (hE : docE ds = 0) : Rt Try.prog 24 [.slice A n c] w fun v w' => (∃ s, v = .tuple #[.pointer (some ⟨s, 0, none⟩), .int .i64 0] ∧ SegAt w' w.heap.size s ds) ∧ From w w' := by
  refine (new_s A c n ds w hr hn hl h0).mono fun v w' h => ?_
  obtain ⟨h | ⟨_, h⟩, hF⟩ := h
  · exact absurd hE h.1
  · exact ⟨h, hF⟩
theorem new_no (A : Option Addr) (c n : Nat) (ds : List Dc) (w : World) (hr : RowK 2 dV w A ds) (hn : n = ds.length) (hl : n ≤ 100000000) (h0 : A = none → n = 0 ∧ c = 0) (hE : docE ds = 2) : Rt Try.prog 24 [.slice A n c] w fun v w' => v = .tuple #[.pointer none, .int .i64 2] ∧ From w w' := by
  refine (new_s A c n ds w hr hn hl h0).mono fun v w' h => ?_
  obtain ⟨⟨_, rfl⟩ | ⟨h, _⟩, hF⟩ := h
  · rw [hE]
    exact ⟨rfl, hF⟩
  · rw [hE] at h
    cases h
/-! ### so many documents -/
def idB (i : Nat) : List UInt8 := [UInt8.ofNat (97 + i / 26), UInt8.ofNat (97 + i % 26)]
def idS (i : Nat) : ByteArray := ⟨(idB i).toArray⟩
def qd (n : Nat) : List Dc := (List.range n).map fun i => (idS i, ⟨#[]⟩)
theorem qd_len (n : Nat) : (qd n).length = n := by unfold qd; rw [List.length_map, List.length_range]
theorem qd_succ (n : Nat) : qd (n + 1) = qd n ++ [(idS n, ⟨#[]⟩)] := by unfold qd; rw [List.range_succ, List.map_append]; rfl
theorem qd_get {n i : Nat} (h : i < n) : (qd n).getD i dd = (idS i, ⟨#[]⟩) := by
  rw [getD_get (by rw [qd_len]; exact h)]
  unfold qd
  rw [List.getElem_map, List.getElem_range]
theorem id_rise : ∀ i, i < 64 → 0 < i → idB (i - 1) < idB i := by decide
theorem id_zzz : idB 63 < [122, 122, 122] := by decide
theorem idS_lt {i j : Nat} (h : idB i < idB j) : sLt (idS i) (idS j) := by
  unfold sLt
  rw [Lib.toList_data, Lib.toList_data]
  exact h
theorem qd_size : ∀ n, dsz (qd n) = 0
  | 0 => rfl
  | n + 1 => by rw [qd_succ, dsz_app, qd_size n]; rfl
theorem qd_ord : DOrd (qd 64) := fun i hi => by
  rw [qd_len] at hi
  unfold okI
  rw [qd_get hi]
  refine ⟨by show 1 ≤ 2; omega, by show 2 ≤ 64; omega, fun h => ?_⟩
  rw [qd_get (by omega)]
  exact idS_lt (id_rise i hi h)
theorem qd_mem {n : Nat} : ∀ d ∈ qd n, d.2.size = 0 := fun d hd => by
  obtain ⟨i, _, rfl⟩ := List.mem_map.1 hd
  rfl
theorem qd_0 : docE (qd 64) = 0 := doc_0 qd_ord ⟨by rw [qd_len]; omega, fun d hd => by rw [qd_mem d hd]; omega, by rw [qd_size]; omega⟩
def zzz : Dc := (⟨#[122, 122, 122]⟩, ⟨#[]⟩)
theorem qd_2 : docE (qd 64 ++ [zzz]) = 2 := by
  have hl := qd_len 64
  refine doc_2 (fun i hi => ?_) (fun h => ?_)
  · rw [List.length_append, hl, List.length_singleton] at hi
    have e : ∀ j, j < 64 → (qd 64 ++ [zzz]).getD j dd = (idS j, ⟨#[]⟩) := fun j hj => by
      rw [← qd_get hj, List.getD_eq_getElem?_getD, List.getD_eq_getElem?_getD, List.getElem?_append_left (by omega)]
    rcases Nat.lt_or_ge i 64 with h | h
    · have h2 := qd_ord i (by omega)
      unfold okI at h2 ⊢
      rw [e i h, e (i - 1) (by omega)]
      rwa [qd_get h, qd_get (by omega : i - 1 < 64)] at h2
    · obtain rfl : i = 64 := by omega
      have e2 : (qd 64 ++ [zzz]).getD 64 dd = zzz := by
        rw [List.getD_eq_getElem?_getD, List.getElem?_append_right (by omega), hl]
        rfl
      unfold okI
      rw [e2, e 63 (by omega)]
      refine ⟨by show 1 ≤ 3; omega, by show 3 ≤ 64; omega, fun _ => ?_⟩
      unfold sLt
      rw [Lib.toList_data, Lib.toList_data]
      exact id_zzz
  · have := h.1
    rw [List.length_append, hl, List.length_singleton] at this
    omega
/-! ### so long a text -/
def zB (n : Nat) : ByteArray := ⟨(List.replicate n 0).toArray⟩
theorem zB_size (n : Nat) : (zB n).size = n := by unfold zB; show (List.replicate n (0 : UInt8)).toArray.size = n; simp
def xd (n : Nat) : List Dc := [(⟨#[120]⟩, zB n)]
theorem xd_ord (n : Nat) : DOrd (xd n) := fun i hi => by
  obtain rfl : i = 0 := by have : i < 1 := hi; omega
  exact ⟨by show 1 ≤ 1; omega, by show 1 ≤ 64; omega, fun h => absurd h (by omega)⟩
theorem xd_0 {n : Nat} (h : n ≤ 2048) : docE (xd n) = 0 := doc_0 (xd_ord n) ⟨by show 1 ≤ 64; omega, fun d hd => by rw [List.mem_singleton.1 hd]; show (zB n).size ≤ 2048; rw [zB_size]; exact h, by show (zB n).size + 0 ≤ 16384; rw [zB_size]; omega⟩
theorem xd_2 {n : Nat} (h : 2048 < n) : docE (xd n) = 2 := doc_2 (xd_ord n) fun h2 => by
  have : (zB n).size ≤ 2048 := h2.2.1 _ (List.mem_singleton.2 rfl)
  rw [zB_size] at this
  omega
theorem zB_pat {n : Nat} (h0 : 0 < n) (h : n ≤ 4096) : patE (zB n) = 0 := by
  unfold patE
  rw [zB_size, if_neg (by omega), if_neg (by omega)]
theorem zB_pat2 {n : Nat} (h : 4096 < n) : patE (zB n) = 2 := by
  unfold patE
  rw [zB_size, if_neg (by omega), if_pos h]
theorem ks_self {t : List Nat} (h : t ≠ []) : ks t t = [0] := by
  have hl := List.length_pos_iff.2 h
  have e := ks_to (t := t) (q := t) (k := 1) h (by omega) (by omega)
  rw [e, show (1 : Nat) = 0 + 1 from rfl, ksTo_yes (by rw [List.drop_zero, List.isPrefixOf_iff_prefix]; exact List.prefix_rfl)]
  rfl
theorem ks_none {t q : List Nat} (h : t.length < q.length) : ks t q = [] := by
  have e := ks_to (t := t) (q := q) (k := 0) (fun h0 => by rw [h0] at h; simp at h) (by omega) (by omega)
  rw [e]
  rfl
theorem seg_self {n : Nat} (h0 : 0 < n) (h : n ≤ 4096) : segH (xd n) (zB n) = [(⟨#[120]⟩, 0)] := by
  unfold segH
  rw [if_pos (zB_pat h0 h)]
  unfold xd hits hits
  rw [ks_self (fun e => by have := congrArg List.length e; rw [txt_len, zB_size, List.length_nil] at this; omega)]
  rfl
theorem seg_none {n m : Nat} (h : n < m) : segH (xd n) (zB m) = [] := by
  unfold segH
  split
  · unfold xd hits hits
    rw [ks_none (by rw [txt_len, txt_len, zB_size, zB_size]; exact h)]
    rfl
  · rfl
theorem rowH1 {w : World} {g : Nat} {a : ByteArray} {x : Int} (h : Blk w g 63 #[.string a, .int .i64 x]) : RowK 2 hV w (some ⟨g, 0, none⟩) [(a, x)] := fun _ => ⟨g, 0, rfl, fun i hi => by
  match i, hi with
  | 0, _ => exact h.whole⟩
theorem search_z (base s n m : Nat) (w : World) (h : SegAt w base s (xd n)) (hm : m ≤ 100000) : Rt Try.prog 12 [.pointer (some ⟨s, 0, none⟩), .string (zB m)] w fun v w' => (∃ A' c', v = .tuple #[.slice A' (segH (xd n) (zB m)).length c', .int .i64 (patE (zB m))] ∧ RowK 2 hV w' A' (segH (xd n) (zB m))) ∧ From w w' := by
  refine (search_rt base s _ w h (zB m) (by rw [zB_size]; omega)).mono fun v w' h => ?_
  obtain ⟨⟨A', c', rfl, ho⟩, hF⟩ := h
  exact ⟨⟨A', c', rfl, (RowK.own hV_len (by decide) ho).2⟩, hF⟩
theorem eqHits_yes (A B : Option Addr) (ca cb n m : Nat) (a b : List Ht) (w : World) (ha : RowK 2 hV w A a) (hb : RowK 2 hV w B b) (hn : n = a.length) (hm : m = b.length) (hl : n ≤ 100000000) (he : a = b) : Rt Try.prog 14 [.slice A n ca, .slice B m cb] w fun v w' => v = .bool true ∧ From w w' :=
  (eqHits_rt A B ca cb n m a b w ha hb hn hm hl).mono fun v w' h => ⟨by rw [h.1, decide_eq_true he], h.2⟩
end Go.Proofs.Ytllmocjfllbbfaa

namespace Go.Proofs.Ytllmocjfllbbfaa
open Go.RowKit
open Go.ChangeShapes Go.WideShapes Go.ChangeAt
open Go.Proofs.Ytllmocjfllbbfaa.SA
theorem SegLawQ_q22 : litQ Try.prog 22 = some (65, 2, 32, (.agg #[.string ⟨#[]⟩, .string ⟨#[]⟩])) := by kernel_rfl
theorem SegLawQ_q32 : litQ Try.prog 32 = some (63, 2, 24, (.agg #[.string ⟨#[]⟩, .int .i64 0])) := by kernel_rfl
theorem SegLawQ_m66 : makeQ Try.prog 66 = some (5, 1, (.int .u8 0)) := by kernel_rfl
theorem SegLawQ_s3 : (Try.prog.underlying 3).isSome = true := by kernel_rfl
theorem SegLawQ_i5 : Try.prog.underlying 5 = some (.int .u8) := by kernel_rfl
theorem SegLawQ_q66 : litQ Try.prog 66 = some (5, 1, 1, (.int .u8 0)) := by kernel_rfl
theorem SegLawQ_b65_0 : ∀ (a0 : ByteArray), Try.prog.built 65 [(0, .string a0)] = some #[.string a0, .string ⟨#[]⟩] := by intros; kernel_rfl
theorem SegLawQ_k24 : callable Try.prog 24 = true := by kernel_rfl
theorem SegLawQ_k26 : callable Try.prog 26 = true := by kernel_rfl
theorem SegLawQ_b65_0cstring122122122 : Try.prog.built 65 [(0, .string ⟨#[122, 122, 122]⟩)] = some #[.string ⟨#[122, 122, 122]⟩, .string ⟨#[]⟩] := by kernel_rfl
theorem SegLawQ_k13 : callable Try.prog 13 = true := by kernel_rfl
theorem SegLawQ_b65_0cstring120_1 : ∀ (a0 : ByteArray), Try.prog.built 65 [(0, .string ⟨#[120]⟩), (1, .string a0)] = some #[.string ⟨#[120]⟩, .string a0] := by intros; kernel_rfl
theorem SegLawQ_k12 : callable Try.prog 12 = true := by kernel_rfl
theorem SegLawQ_b63_0cstring120 : Try.prog.built 63 [(0, .string ⟨#[120]⟩)] = some #[.string ⟨#[120]⟩, .int .i64 0] := by kernel_rfl
theorem SegLawQ_k14 : callable Try.prog 14 = true := by kernel_rfl
theorem SegLawQ_l32 : (elemQ Try.prog 32).isSome = true := by kernel_rfl
theorem SegLawQ_f25_0 : fieldQ Try.prog 25 0 = some 0 := by kernel_rfl
theorem SegLawQ_g22 : aggQ Try.prog 22 = some false := by kernel_rfl
theorem SegLawQ_l22 : (elemQ Try.prog 22).isSome = true := by kernel_rfl
theorem SegLawQ_k9 : callable Try.prog 9 = true := by kernel_rfl
set_option maxHeartbeats 4000000 in
theorem quotas_law (A B C : Option Addr) (ca cb cc : Nat) (ds : List Dc) (ps ns : List ByteArray) (w : World) (ha : AskS w A B C ca ds ps ns) :
    Rt Try.prog 6 [.agg #[.slice A ds.length ca, .slice B ps.length cb, .slice C ns.length cc]] w (fun v w' => v = .bool true ∧ From w w') := by
  have hlenP := ha.lenP
  refine enter (n := 161) Try.func6 rfl rfl rfl ?_
  refine cd_seq (cd_region ?_)
  refine st_box (v := .agg _) rfl ?_
  intro b1 w1 E1 hb1 hk1
  refine asb rfl ?_
  refine st_nil (nx_then (cd_seq (cd_region ?_)))
  refine ass rfl ?_
  refine st_nil (nx_then (cd_seq (cd_seq (cd_region ?_))))
  refine asi rfl ?_
  refine st_nil (nx_then (cd_block ?_))
  refine cd_loop (G := Nat × Option Addr × Nat) [17, 18, 19, 20, 21, 22, 23, 24, 25, 26, 27, 28, 29, 30, 31, 32, 33, 34] (fun (i, A3, c3) => [(4, .int .i64 (i : Nat)), (3, .slice A3 i c3)]) (fun (i, A3, c3) w' => i ≤ 64 ∧ w'.ownsRow w.heap.size 65 2 (.slice A3 i c3) i ((qd i).flatMap dV) ∧ Blk w' b1 25 #[.slice A ds.length ca, .slice B ps.length cb, .slice C ns.length cc] ∧ From w w') (fun (i, _, _) => 64 - i) ((0, none, 0)) ⟨rfl, rfl, trivial⟩ ?_ ?_
  · exact ⟨Nat.zero_le _, World.ownsRow_nil _ _ _ _, hk1, (From.rfl_.next E1)⟩
  rintro ⟨i, A3, c3⟩ ρ2 w2 ⟨hi, ho, hP1, hB⟩
  refine cd_seq (cd_seq (cd_region ?_))
  refine mvi rfl ?_
  refine st_val (ro_lss rfl rfl) ?_
  refine st_nil (nx_then ?_)
  refine cd_cond rfl (fun Q3 => ?_) (fun Q3 => ?_)
  · with_reducible replace Q3 := of_decide_eq_true Q3
    refine cd_skip (nx_then (cd_seq (cd_block (cd_region ?_))))
    refine mvs rfl ?_
    refine mvi rfl ?_
    refine st_val (ro_quoN (b := 26) rfl rfl (by omega)) ?_
    refine st_val (ro_addN (a := 97) rfl rfl (by omega)) ?_
    refine st_val (ro_conv8 SegLawQ_s3 SegLawQ_i5 rfl) ?_
    refine st_spell (t := 25) (v := .int _ _) (v' := .int .u8 ((97 + i / 26 : Nat) : Int)) rfl (by rw [Nat.mod_eq_of_lt (by omega)]) ?_
    refine mvi rfl ?_
    refine st_val (ro_remN (b := 26) rfl rfl (by omega)) ?_
    refine st_val (ro_addN (a := 97) rfl rfl (by omega)) ?_
    refine st_val (ro_conv8 SegLawQ_s3 SegLawQ_i5 rfl) ?_
    refine st_spell (t := 29) (v := .int _ _) (v' := .int .u8 ((97 + i % 26 : Nat) : Int)) rfl (by rw [Nat.mod_eq_of_lt (by omega)]) ?_
    refine st_lits [.tmp 25, .tmp 29] [.int _ _, .int _ _] SegLawQ_q66 rfl rfl rfl rfl (by simp [Value.cells]) ?_
    intro b30 w4 E30 hb30 hk30
    refine st_val (ro_strB (e := 5) (l := idB i) (by kernel_rfl) (by kernel_rfl) (by kernel_rfl) rfl rfl (byte_two hk30 (by omega) (by omega))) ?_
    refine st_val (ro_build (l := [(0, .tmp 31)]) (SegLawQ_b65_0 _)) ?_
    refine st_litK2 SegLawQ_q22 rfl rfl rfl ?_
    intro b33 w5 E33 hb33 hk33
    refine st_appendB SegLawQ_q22 rfl (by decide) rfl (A := A3) (xs := (qd i).flatMap dV) (news := dV (idS i, ⟨#[]⟩)) (ho.kept_from ((From.rfl_.next E30).next E33)) (((hB.next E30).next E33).size) rfl rfl (fun _ => ⟨b33, 0, rfl, hk33.whole⟩) (fun h => by cases h) (by simp [dV, Value.oneCell']) (by omega) (by omega) ?_
    intro A34 c34 w6 ho34 hg34
    have HF34 := (((hB.next E30).next E33)).grew hg34 (fun k hk => (own_at (ho.kept_from ((From.rfl_.next E30).next E33)) k hk).1)
    have hP134 := (hP1.from_ ((From.rfl_.next E30).next E33)).grown hg34 (own_off (ho.kept_from ((From.rfl_.next E30).next E33)) (hP1.from_ ((From.rfl_.next E30).next E33)) (by decide))
    refine ass rfl ?_
    refine st_nil (nx_block (nx_then (cd_region ?_)))
    refine mvi rfl ?_
    refine st_val (ro_add64 rfl rfl (by omega)) ?_
    refine asi rfl ?_
    refine st_nil ?_
    refine nx_cut ((i + 1, A34, c34)) ⟨(by first | rfl | (refine int_eq ?_; omega)), (by first | rfl | (refine int_eq ?_; omega)), trivial⟩ (by (iterate 42 refine agr_cons rfl ?_); exact agr_rfl) ⟨?_, ?_⟩
    · exact ⟨by omega, by rw [qd_succ, List.flatMap_append]; simpa [dV, idS, idB] using ho34, hP134, HF34⟩
    · show 64 - (i + 1) < 64 - i; omega
  with_reducible replace Q3 := of_decide_eq_false Q3
  have hi64 : i = 64 := by omega
  refine cd_exit ?_
  refine ex_then (ex_then (ex_block (nx_then (cd_seq (cd_region ?_)))))
  refine mvs rfl ?_
  refine st_call SegLawQ_k24 (new_ok A3 c3 i (qd i) _ ((RowK.own dV_len (by decide) ho).2.from_ From.rfl_) (qd_len i).symm (by omega) (own_nil ho) (by rw [hi64]; exact qd_0)) ?_
  rintro v37 w7 ⟨⟨s37, rfl, hs37⟩, E37⟩
  
  refine mvt rfl ?_
  refine st_val (ro_extract rfl rfl) ?_
  refine st_val (ro_extract rfl rfl) ?_
  refine asp rfl ?_
  refine asi rfl ?_
  refine st_nil (nx_then (cd_seq (cd_region ?_)))
  refine mvs rfl ?_
  have hz42 := ((hB.next E37)).size
  have hl1 := (hP1.from_ (From.rfl_.next E37)).lt
  refine st_call SegLawQ_k26 (copyDocs_rt A3 c3 i (qd i) _ ((RowK.own dV_len (by decide) ho).2.from_ E37) (qd_len i).symm (by omega)) ?_
  rintro v42 w8 ⟨⟨A42, c42, rfl, ho42⟩, E42⟩
  refine st_val (ro_build (l := [(0, .const (.string ⟨#[122, 122, 122]⟩))]) (SegLawQ_b65_0cstring122122122)) ?_
  refine st_litK2 SegLawQ_q22 rfl rfl rfl ?_
  intro b44 w9 E44 hb44 hk44
  refine st_appendB SegLawQ_q22 rfl (by decide) rfl (A := A42) (xs := (qd i).flatMap dV) (news := dV zzz) (ho42.kept_from E44) (by have := E42.size; have := E44.size; omega) rfl rfl (fun _ => ⟨b44, 0, rfl, hk44.whole⟩) (fun h => by cases h) (by simp [dV, zzz, Value.oneCell']) (by omega) (by omega) ?_
  intro A45 c45 w10 ho45 hg45
  have HF45 := ((((hB.next E37).next E42).next E44)).grew hg45 (fun k hk => Nat.le_trans hz42 (own_at (ho42.kept_from E44) k hk).1)
  rw [show (qd i).flatMap dV ++ dV zzz = (qd i ++ [zzz]).flatMap dV by rw [List.flatMap_append]; simp] at ho45
  replace hP1 := ((hP1.from_ (((From.rfl_.next E37).next E42).next E44)).grown hg45 (fun q hq => by have := (own_at (ho42.kept_from E44) q hq).1; omega))
  refine st_call SegLawQ_k24 (new_no A45 c45 (i + 1) (qd i ++ [zzz]) _ (RowK.own dV_len (by decide) ho45).2 (by rw [List.length_append, qd_len]; rfl) (by omega) (own_nil ho45) (by rw [hi64]; exact qd_2)) ?_
  rintro v46 w11 ⟨rfl, E46⟩
  refine mvt rfl ?_
  refine st_val (ro_extract rfl rfl) ?_
  refine st_val (ro_extract rfl rfl) ?_
  refine asp rfl ?_
  refine asi rfl ?_
  refine st_nil (nx_then (cd_seq (cd_seq (cd_region ?_))))
  refine mvi rfl ?_
  refine st_call SegLawQ_k13 (num_any _ _) ?_
  rintro v50 w12 ⟨rfl, rfl⟩
  refine st_val (ro_bf (ro_neq rfl rfl) rfl) ?_
  refine mvb rfl ?_
  refine st_unguard rfl ?_
  refine mvp rfl ?_
  refine st_unguard rfl ?_
  refine st_val (ro_bf (ro_eqlNil (by kernel_rfl) rfl rfl) rfl) ?_
  refine st_val (ro_pickF (v := .bool _) rfl rfl) ?_
  refine mvb rfl ?_
  refine st_unguard rfl ?_
  refine mvi rfl ?_
  refine st_unguard rfl ?_
  refine st_call SegLawQ_k13 (num_any _ _) ?_
  rintro v58 w13 ⟨rfl, rfl⟩
  refine st_unguard rfl ?_
  refine st_val (ro_bf (ro_neq rfl rfl) rfl) ?_
  refine st_val (ro_pickF (v := .bool _) rfl rfl) ?_
  refine mvb rfl ?_
  refine st_unguard rfl ?_
  refine mvp rfl ?_
  refine st_unguard rfl ?_
  refine st_val (ro_bf (ro_neqNil (by kernel_rfl) rfl rfl) rfl) ?_
  refine st_val (ro_pickF (v := .bool _) rfl rfl) ?_
  refine st_nil (nx_then ?_)
  refine cd_condF rfl ?_
  refine cd_skip (nx_then (cd_seq (cd_region ?_)))
  refine st_make (m := 2048) SegLawQ_m66 rfl rfl rfl (by omega) (by omega) ?_
  intro b66 w14 E66 hb66 hk66
  refine st_val (ro_strB (e := 5) (l := List.replicate 2048 0) (by kernel_rfl) (by kernel_rfl) (by kernel_rfl) rfl (by rw [List.length_replicate]) (byte_zero hk66)) ?_
  refine st_val (ro_build (l := [(0, .const (.string ⟨#[120]⟩)), (1, .tmp 67)]) (SegLawQ_b65_0cstring120_1 _)) ?_
  refine st_litK2 SegLawQ_q22 rfl rfl rfl ?_
  intro b69 w15 E69 hb69 hk69
  refine st_call SegLawQ_k24 (new_ok (some ⟨b69, 0, none⟩) 1 1 (xd 2048) _ (rowD1 hk69) rfl (by omega) (fun h => by cases h) (xd_0 (by omega))) ?_
  rintro v70 w16 ⟨⟨s70, rfl, hs70⟩, E70⟩
  replace hP1 := hP1.from_ ((((From.rfl_.next E46).next E66).next E69).next E70)
  refine mvt rfl ?_
  refine st_val (ro_extract rfl rfl) ?_
  refine st_val (ro_extract rfl rfl) ?_
  refine asp rfl ?_
  refine asi rfl ?_
  refine st_nil (nx_then (cd_seq (cd_region ?_)))
  refine st_make (m := 2049) SegLawQ_m66 rfl rfl rfl (by omega) (by omega) ?_
  intro b74 w17 E74 hb74 hk74
  refine st_val (ro_strB (e := 5) (l := List.replicate 2049 0) (by kernel_rfl) (by kernel_rfl) (by kernel_rfl) rfl (by rw [List.length_replicate]) (byte_zero hk74)) ?_
  refine st_val (ro_build (l := [(0, .const (.string ⟨#[120]⟩)), (1, .tmp 75)]) (SegLawQ_b65_0cstring120_1 _)) ?_
  refine st_litK2 SegLawQ_q22 rfl rfl rfl ?_
  intro b77 w18 E77 hb77 hk77
  refine st_call SegLawQ_k24 (new_no (some ⟨b77, 0, none⟩) 1 1 (xd 2049) _ (rowD1 hk77) rfl (by omega) (fun h => by cases h) (xd_2 (by omega))) ?_
  rintro v78 w19 ⟨rfl, E78⟩
  refine mvt rfl ?_
  refine st_val (ro_extract rfl rfl) ?_
  refine st_val (ro_extract rfl rfl) ?_
  refine asp rfl ?_
  refine asi rfl ?_
  refine st_nil (nx_then (cd_seq (cd_seq (cd_region ?_))))
  refine mvi rfl ?_
  refine st_call SegLawQ_k13 (num_any _ _) ?_
  rintro v82 w20 ⟨rfl, rfl⟩
  refine st_val (ro_bf (ro_neq rfl rfl) rfl) ?_
  refine mvb rfl ?_
  refine st_unguard rfl ?_
  refine mvp rfl ?_
  refine st_unguard rfl ?_
  refine st_val (ro_bf (ro_eqlNil (by kernel_rfl) rfl rfl) rfl) ?_
  refine st_val (ro_pickF (v := .bool _) rfl rfl) ?_
  refine mvb rfl ?_
  refine st_unguard rfl ?_
  refine mvi rfl ?_
  refine st_unguard rfl ?_
  refine st_call SegLawQ_k13 (num_any _ _) ?_
  rintro v90 w21 ⟨rfl, rfl⟩
  refine st_unguard rfl ?_
  refine st_val (ro_bf (ro_neq rfl rfl) rfl) ?_
  refine st_val (ro_pickF (v := .bool _) rfl rfl) ?_
  refine mvb rfl ?_
  refine st_unguard rfl ?_
  refine mvp rfl ?_
  refine st_unguard rfl ?_
  refine st_val (ro_bf (ro_neqNil (by kernel_rfl) rfl rfl) rfl) ?_
  refine st_val (ro_pickF (v := .bool _) rfl rfl) ?_
  refine st_nil (nx_then ?_)
  refine cd_condF rfl ?_
  refine cd_skip (nx_then (cd_seq (cd_region ?_)))
  refine mvp rfl ?_
  refine st_make (m := 2048) SegLawQ_m66 rfl rfl rfl (by omega) (by omega) ?_
  intro b99 w22 E99 hb99 hk99
  refine st_val (ro_strB (e := 5) (l := List.replicate 2048 0) (by kernel_rfl) (by kernel_rfl) (by kernel_rfl) rfl (by rw [List.length_replicate]) (byte_zero hk99)) ?_
  
  refine st_call SegLawQ_k12 (search_z _ s70 2048 2048 _ (hs70.from_ ((((From.rfl_.next E74).next E77).next E78).next E99)) (by omega)) ?_
  rintro v101 w23 ⟨⟨A101, c101, rfl, hr101⟩, E101⟩
  
  refine mvt rfl ?_
  refine st_val (ro_extract rfl rfl) ?_
  refine st_val (ro_extract rfl rfl) ?_
  refine ass rfl ?_
  refine asi rfl ?_
  refine st_nil (nx_then (cd_seq (cd_region ?_)))
  refine mvp rfl ?_
  refine st_make (m := 4096) SegLawQ_m66 rfl rfl rfl (by omega) (by omega) ?_
  intro b106 w24 E106 hb106 hk106
  refine st_val (ro_strB (e := 5) (l := List.replicate 4096 0) (by kernel_rfl) (by kernel_rfl) (by kernel_rfl) rfl (by rw [List.length_replicate]) (byte_zero hk106)) ?_
  refine st_call SegLawQ_k12 (search_z _ s70 2048 4096 _ (hs70.from_ ((((((From.rfl_.next E74).next E77).next E78).next E99).next E101).next E106)) (by omega)) ?_
  rintro v108 w25 ⟨⟨A108, c108, rfl, hr108⟩, E108⟩
  refine mvt rfl ?_
  refine st_val (ro_extract rfl rfl) ?_
  refine st_val (ro_extract rfl rfl) ?_
  refine ass rfl ?_
  refine asi rfl ?_
  refine st_nil (nx_then (cd_seq (cd_region ?_)))
  refine mvp rfl ?_
  refine st_make (m := 4097) SegLawQ_m66 rfl rfl rfl (by omega) (by omega) ?_
  intro b113 w26 E113 hb113 hk113
  refine st_val (ro_strB (e := 5) (l := List.replicate 4097 0) (by kernel_rfl) (by kernel_rfl) (by kernel_rfl) rfl (by rw [List.length_replicate]) (byte_zero hk113)) ?_
  refine st_call SegLawQ_k12 (search_z _ s70 2048 4097 _ (hs70.from_ ((((((((From.rfl_.next E74).next E77).next E78).next E99).next E101).next E106).next E108).next E113)) (by omega)) ?_
  rintro v115 w27 ⟨⟨A115, c115, rfl, hr115⟩, E115⟩
  
  refine mvt rfl ?_
  refine st_val (ro_extract rfl rfl) ?_
  refine st_val (ro_extract rfl rfl) ?_
  refine ass rfl ?_
  refine asi rfl ?_
  refine st_nil (nx_then (cd_seq (cd_region ?_)))
  refine mvp rfl ?_
  refine st_call SegLawQ_k12 (search_rt _ s70 _ _ (hs70.from_ (((((((((From.rfl_.next E74).next E77).next E78).next E99).next E101).next E106).next E108).next E113).next E115)) ⟨#[]⟩ (by show 0 ≤ _; omega)) ?_
  rintro v120 w28 ⟨⟨A120, c120, rfl, ho120⟩, E120⟩
  have hM101 := E106.next (E108.next (E113.next (E115.next E120)))
  refine mvt rfl ?_
  refine st_val (ro_extract rfl rfl) ?_
  refine st_val (ro_extract rfl rfl) ?_
  refine ass rfl ?_
  refine asi rfl ?_
  refine st_nil (nx_then (cd_seq (cd_region ?_)))
  refine mvi rfl ?_
  refine st_call SegLawQ_k13 (num_any _ _) ?_
  rintro v124 w29 ⟨rfl, rfl⟩
  refine st_val (ro_bt (ro_eql rfl rfl) (by rw [zB_pat (by omega) (by omega)]; rfl)) ?_
  refine mvb rfl ?_
  refine st_unguard rfl ?_
  refine mvs rfl ?_
  refine st_unguard rfl ?_
  refine st_val (ro_build (l := [(0, .const (.string ⟨#[120]⟩))]) (SegLawQ_b63_0cstring120)) ?_
  refine st_unguard rfl ?_
  refine st_litK2 SegLawQ_q32 rfl rfl rfl ?_
  intro b129 w30 E129 hb129 hk129
  refine st_unguard rfl ?_
  refine st_call SegLawQ_k14 (eqHits_yes A101 (some ⟨b129, 0, none⟩) c101 1 (segH (xd 2048) (zB 2048)).length 1 (segH (xd 2048) (zB 2048)) [(⟨#[120]⟩, 0)] _ (hr101.from_ (hM101.next E129)) (rowH1 hk129) rfl rfl (by rw [seg_self (by omega) (by omega)]; decide) (seg_self (by omega) (by omega))) ?_
  rintro v130 w31 ⟨rfl, E130⟩
  refine st_val (ro_pickT (v := .bool _) rfl rfl) ?_
  refine mvb rfl ?_
  refine st_split (t := 132) rfl (fun Q32 => ?_) (fun Q32 => ?_)
  rotate_left
  · exfalso; contradiction
  refine st_unguard rfl ?_
  refine mvi rfl ?_
  refine st_unguard rfl ?_
  refine st_call SegLawQ_k13 (num_any _ _) ?_
  rintro v134 w33 ⟨rfl, rfl⟩
  refine st_unguard rfl ?_
  refine st_val (ro_bt (ro_eql rfl rfl) (by rw [zB_pat (by omega) (by omega)]; rfl)) ?_
  refine st_val (ro_pickT (v := .bool _) rfl rfl) ?_
  refine mvb rfl ?_
  refine st_unguard rfl ?_
  refine mvs rfl ?_
  refine st_unguard rfl ?_
  refine st_val (ro_len SegLawQ_l32 rfl) ?_
  refine st_unguard rfl ?_
  refine st_val (ro_bt (ro_eql rfl rfl) (by rw [seg_none (by omega)]; rfl)) ?_
  refine st_val (ro_pickT (v := .bool _) rfl rfl) ?_
  refine mvb rfl ?_
  refine st_unguard rfl ?_
  refine mvi rfl ?_
  refine st_unguard rfl ?_
  refine st_call SegLawQ_k13 (num_any _ _) ?_
  rintro v144 w34 ⟨rfl, rfl⟩
  refine st_unguard rfl ?_
  refine st_val (ro_bt (ro_eql rfl rfl) (by rw [zB_pat2 (by omega)]; rfl)) ?_
  refine st_val (ro_pickT (v := .bool _) rfl rfl) ?_
  refine mvb rfl ?_
  refine st_unguard rfl ?_
  refine mvi rfl ?_
  refine st_unguard rfl ?_
  refine st_call SegLawQ_k13 (num_any _ _) ?_
  rintro v149 w35 ⟨rfl, rfl⟩
  refine st_unguard rfl ?_
  refine st_val (ro_bt (ro_eql rfl rfl) rfl) ?_
  refine st_val (ro_pickT (v := .bool _) rfl rfl) ?_
  refine mvb rfl ?_
  refine st_unguard rfl ?_
  refine st_val (ro_fieldAddr SegLawQ_f25_0 rfl) ?_
  refine st_unguard rfl ?_
  refine st_val (ro_load SegLawQ_g22 rfl (by first | (first | exact (hP1.from_ ((((((((((((From.rfl_.next E74).next E77).next E78).next E99).next E101).next E106).next E108).next E113).next E115).next E120).next E129).next E130)).whole | exact (hP1.from_ ((((((((((((From.rfl_.next E74).next E77).next E78).next E99).next E101).next E106).next E108).next E113).next E115).next E120).next E129).next E130)).rd 0 rfl) | (first | exact (hP1.from_ ((((((((((((From.rfl_.next E74).next E77).next E78).next E99).next E101).next E106).next E108).next E113).next E115).next E120).next E129).next E130)).whole | exact (hP1.from_ ((((((((((((From.rfl_.next E74).next E77).next E78).next E99).next E101).next E106).next E108).next E113).next E115).next E120).next E129).next E130)).rd 0 rfl))) ?_
  refine st_unguard rfl ?_
  refine st_val (ro_len SegLawQ_l22 rfl) ?_
  refine st_unguard rfl ?_
  refine st_val (ro_bt (ro_geq rfl rfl) (decide_eq_true (by omega))) ?_
  refine st_val (ro_pickT (v := .bool _) rfl rfl) ?_
  refine mvb rfl ?_
  refine st_unguard rfl ?_
  refine st_call SegLawQ_k9 (wakes_rt _) ?_
  rintro v159 w36 ⟨rfl, E159⟩
  refine st_val (ro_pickT (v := .bool _) rfl rfl) ?_
  refine asb rfl ?_
  refine st_nil (nx_then (cd_ret ?_))
  refine res1 (v := .bool _) rfl rfl ?_
  exact ⟨rfl, (((((((((((((((((HF45.next E46).next E66).next E69).next E70).next E74).next E77).next E78).next E99).next E101).next E106).next E108).next E113).next E115).next E120).next E129).next E130).next E159)⟩
theorem quotas_arg (cs : Array Value) (x : (Ty.pr (Ty.sl docT) (.pr (.sl .str) (.pr (.sl .str) .unit))).den) (w : World) (hs : cs.size = 3) (h : (Ty.pr (Ty.sl docT) (.pr (.sl .str) (.pr (.sl .str) .unit))).At w (fun j => cs[j]?) x) :
    Rt Try.prog 6 [.agg cs] w fun v w' => v = .bool true ∧ From w w' := by
  obtain ⟨A, B, C, ca, cb, cc, ds, ps, ns, rfl, ha, hcap⟩ := ask_of8 hs h
  exact quotas_law A B C ca cb cc ds ps ns w ha
theorem SegmentQuotas_lifted (os : Os) (started : os.Started) (H : Type) (enc : TypeId × Value → H) :
    ReturnsInHanded {} Try.checked os 6 .any (Rows.segmentQuotasSpec.pre6 enc Try.prog Try.f6 Rows.segmentQuotasRow.domain false) (Rows.segmentQuotasSpec.post enc Try.prog Try.f6 false true false false) := by
  refine returnsInHanded_of_change_sized (C := Try.checked) Try.own started (by kernel_rfl) Try.func6
    (ChangeSpec.witness6 (enc := enc) (C := Try.checked) false ⟨#[], #[.agg #[.slice none 0 0, .slice none 0 0, .slice none 0 0]], []⟩ 8 (by kernel_rfl) (by kernel_rfl) (by kernel_rfl) (by kernel_rfl)) ?_
  intro W base args ds gs before hval hW _ hsz _
  exact law_step 6 Try.f6 25 4 Rows.segmentQuotasSpec Try.params6 (by kernel_rfl) Try.underlying4 rfl (fun _ => rfl) (by kernel_rfl) (of_decide_eq_true (by kernel_rfl)) (walk_struct (Ty.sl docT) (.pr (.sl .str) (.pr (.sl .str) .unit)) (by kernel_rfl) quotas_arg) W base args ds gs before hval hW hsz

theorem SegmentQuotas_holds : Rows.SegmentQuotasSaid :=
  OpenClaim.holds_of_wide 6 Try.f6 rfl rfl rfl rfl rfl rfl rfl ⟨rfl, rfl, rfl, rfl, rfl⟩ rfl rfl rfl rfl rfl (by kernel_rfl) Try.func6 (by kernel_rfl)
    (of_decide_eq_true (by kernel_rfl)) (by unfold Func.isWrapper; first | (rw [if_pos (by decide +kernel)]; kernel_rfl) | (rw [if_neg (by decide +kernel)]; exact ⟨rfl, rfl⟩))
    (fun os started H enc _ => SegmentQuotas_lifted os started H enc)
#print axioms SegmentQuotas_holds

end Go.Proofs.Ytllmocjfllbbfaa
