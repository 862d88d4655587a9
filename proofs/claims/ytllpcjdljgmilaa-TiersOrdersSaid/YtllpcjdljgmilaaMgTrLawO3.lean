/- The law TiersOrders. -/
import Derived.Test.YtllpcjdljgmilaaMgTrLawO2
set_option maxRecDepth 100000
namespace Go.Proofs.Ytllpcjdljgmilaa
open Go.RowKit
open Go.ChangeShapes Go.WideShapes Go.ChangeAt
theorem TrLawO_g3 : aggQ Try.prog 3 = some false := by kernel_rfl
theorem TrLawO_g25 : aggQ Try.prog 25 = some true := by kernel_rfl
theorem TrLawO_z25 : sizeQ Try.prog 25 = some 2 := by kernel_rfl
theorem TrLawO_k5 : callable Try.prog 5 = true := by kernel_rfl
theorem TrLawO_f25_0 : fieldQ Try.prog 25 0 = some 0 := by kernel_rfl
theorem TrLawO_g22 : aggQ Try.prog 22 = some false := by kernel_rfl
theorem TrLawO_k7 : callable Try.prog 7 = true := by kernel_rfl
theorem TrLawO_k9 : callable Try.prog 9 = true := by kernel_rfl
theorem TrLawO_l22 : (elemQ Try.prog 22).isSome = true := by kernel_rfl
theorem TrLawO_e22 : elemQ Try.prog 22 = some (27, 1) := by kernel_rfl
theorem TrLawO_g27 : aggQ Try.prog 27 = some false := by kernel_rfl
theorem TrLawO_q22 : litQ Try.prog 22 = some (27, 1, 24, (.slice none 0 0)) := by kernel_rfl
theorem TrLawO_l27 : (elemQ Try.prog 27).isSome = true := by kernel_rfl
theorem TrLawO_k10 : callable Try.prog 10 = true := by kernel_rfl
theorem TrLawO_f25_1 : fieldQ Try.prog 25 1 = some 1 := by kernel_rfl
theorem TrLawO_g23 : aggQ Try.prog 23 = some false := by kernel_rfl
theorem TrLawO_k13 : callable Try.prog 13 = true := by kernel_rfl
theorem TrLawO_l23 : (elemQ Try.prog 23).isSome = true := by kernel_rfl
theorem TrLawO_e23 : elemQ Try.prog 23 = some (3, 1) := by kernel_rfl
theorem TrLawO_k14 : callable Try.prog 14 = true := by kernel_rfl
theorem TrLawO_k12 : callable Try.prog 12 = true := by kernel_rfl
theorem class_rt (n : Int) (w : World) (h : n ≤ 9223372036854775807) : Rt Try.prog 14 [.int .i64 n] w fun v w' => v = .int .i64 (cls n : Nat) ∧ w = w' := Rt.of (class_any n w h)
theorem rev_at {Ls : List (List Dc)} {i : Nat} (h : i < Ls.length) : ∃ h2 : i < Ls.reverse.length, Ls.reverse[i] = Ls[Ls.length - 1 - i]'(by omega) := ⟨by rw [List.length_reverse]; exact h, by rw [List.getElem_reverse]⟩
theorem rev_perm (Ls : List (List Dc)) : Ls.reverse.flatten.Perm Ls.flatten := (List.reverse_perm Ls).flatten
theorem mE_rev {Ls : List (List Dc)} (h : mE Ls = 0) : mE Ls.reverse = 0 ∧ mD Ls.reverse = mD Ls := by
  obtain ⟨h1, h2⟩ := mE_ok h
  have e := mE_0 (ls := Ls.reverse) (fun l hl => h1 l (List.mem_reverse.1 hl)) (h2.perm (rev_perm Ls).symm)
  refine ⟨e, ?_⟩
  unfold mD
  rw [if_pos e, if_pos h]
  exact srtD_perm (rev_perm Ls)
theorem Dif.app {a b : List Dc} (h : Dif (a ++ b)) : Dif a := (List.pairwise_append.1 h).1
theorem Dif.upto {Ls : List (List Dc)} {i : Nat} (h : Dif Ls.flatten) : Dif (Ls.take i).flatten := by
  have e : Ls.flatten = (Ls.take i).flatten ++ (Ls.drop i).flatten := by rw [← List.flatten_append, List.take_append_drop]
  rw [e] at h
  exact h.app
/-- one list more -/
theorem two_ok {Ls : List (List Dc)} {i : Nat} (h : mE Ls = 0) (hi : i < Ls.length) : mE [srtD (Ls.take i).flatten, Ls[i]] = 0 ∧ mD [srtD (Ls.take i).flatten, Ls[i]] = srtD (Ls.take (i + 1)).flatten := by
  obtain ⟨h1, h2⟩ := mE_ok h
  obtain ⟨k1, k2⟩ := srtD_sd (h2.upto (i := i))
  have hp : [srtD (Ls.take i).flatten, Ls[i]].flatten.Perm (Ls.take (i + 1)).flatten := by
    rw [fl_succ hi]
    show (srtD (Ls.take i).flatten ++ (Ls[i] ++ [])).Perm _
    rw [List.append_nil]
    exact k2.append_right _
  have e := mE_0 (ls := [srtD (Ls.take i).flatten, Ls[i]]) (fun l hl => by
    rcases List.mem_cons.1 hl with e | e
    · rw [e]; exact k1
    · rw [List.mem_singleton.1 e]; exact h1 _ (List.getElem_mem hi)) ((h2.upto (i := i + 1)).perm hp.symm)
  refine ⟨e, ?_⟩
  unfold mD
  rw [if_pos e]
  exact srtD_perm hp
theorem mD_all {Ls : List (List Dc)} (h : mE Ls = 0) : srtD Ls.flatten = mD Ls ∧ (mD Ls).length = Ls.flatten.length := by
  have e : mD Ls = srtD Ls.flatten := by unfold mD; rw [if_pos h]
  rw [e]
  exact ⟨rfl, (srtD_sd (mE_ok h).2).2.length_eq⟩
theorem srt_len {Ls : List (List Dc)} {i : Nat} (h : mE Ls = 0) : (srtD (Ls.take i).flatten).length ≤ Ls.flatten.length := by
  rw [(srtD_sd ((mE_ok h).2.upto (i := i))).2.length_eq]; exact fl_le i
/-- two lists in a block -/
theorem rowLL2 {w : World} {g e : Nat} {A1 A2 : Option Addr} {c1 c2 : Nat} {a b : List Dc} (h : Blk w g e #[.slice A1 a.length c1, .slice A2 b.length c2]) (h1 : RowK 2 dV w A1 a) (h2 : RowK 2 dV w A2 b) (n1 : A1 = none → c1 = 0) (n2 : A2 = none → c2 = 0) : RowLL w (some ⟨g, 0, none⟩) [a, b] := fun _ => ⟨g, 0, rfl, fun i hi => by
  match i, hi with
  | 0, _ => exact ⟨A1, c1, h.rd 0 rfl, h1, n1⟩
  | 1, _ => exact ⟨A2, c2, h.rd 1 rfl, h2, n2⟩⟩
theorem cls_get {is : List Int} {j : Nat} (h : j < is.length) : (is.map cls).getD j 0 = cls is[j] := getD_map is j h
theorem sm_next {is : List Int} {i t : Nat} (h : i + (t + 1) < is.length) : sm (is.map cls) i (t + 1) = (sm (is.map cls) i t && (((cls is[i] : Nat) : Int) == ((cls is[i + (t + 1)] : Nat) : Int))) := by
  rw [sm, cls_get h, cls_get (show i < is.length by omega)]
  congr 1
  rw [Bool.eq_iff_iff, beq_iff_eq, beq_iff_eq]
  omega
theorem srt_nil {Ls : List (List Dc)} : srtD (Ls.take 0).flatten = [] := srtD_self List.Pairwise.nil
set_option maxHeartbeats 6000000 in
theorem orders_law (A B : Option Addr) (ca cb : Nat) (Ls : List (List Dc)) (is : List Int) (w : World) (ha : AskT w A B Ls is) :
    Rt Try.prog 4 [.agg #[.slice A Ls.length ca, .slice B is.length cb]] w (fun v w' => v = .bool true ∧ From w w') := by
  have hlen := ha.len
  have hlenI := ha.lenI
  refine enter (n := 153) Try.func4 rfl rfl rfl ?_
  refine cd_seq (cd_region ?_)
  refine st_box (v := .agg _) rfl ?_
  intro b1 w1 E1 hb1 hk1
  refine asb rfl ?_
  refine st_nil (nx_then (cd_seq (cd_seq (cd_region ?_))))
  refine st_val (ro_loadA (cs := [_, _]) TrLawO_g25 TrLawO_z25 rfl (by first | (first | exact (hP1.from_ From.rfl_).whole | exact (hP1.from_ From.rfl_).rd 0 rfl | exact (hP1.from_ From.rfl_).rd 1 rfl) | (first | exact (hk1.from_ From.rfl_).whole | exact (hk1.from_ From.rfl_).rd 0 rfl | exact (hk1.from_ From.rfl_).rd 1 rfl))) ?_
  refine st_call TrLawO_k5 (heavy_rt A B ca cb Ls is _ (ha.from_ (From.rfl_.next E1))) ?_
  rintro v19 w2 ⟨⟨hv, rfl, hli⟩, E19⟩
  replace hk1 := hk1.from_ (From.rfl_.next E19)
  refine st_nil (nx_then ?_)
  refine cd_cond rfl (fun Q3 => ?_) (fun Q3 => ?_)
  · refine cd_seq (cd_region ?_)
    refine asb rfl ?_
    refine st_nil (nx_then (cd_ret (rt_then ?_)))
    refine res1 (v := .bool _) rfl rfl ?_
    exact ⟨rfl, ((From.rfl_.next E1).next E19)⟩
  obtain ⟨hl1, hl2, hl3⟩ := hli (by simpa using Q3)
  refine cd_skip (nx_then (cd_seq (cd_region ?_)))
  refine st_val (ro_fieldAddr TrLawO_f25_0 rfl) ?_
  refine st_val (ro_load TrLawO_g22 rfl (by first | (first | exact (hP1.from_ From.rfl_).whole | exact (hP1.from_ From.rfl_).rd 0 rfl | exact (hP1.from_ From.rfl_).rd 1 rfl) | (first | exact (hk1.from_ From.rfl_).whole | exact (hk1.from_ From.rfl_).rd 0 rfl | exact (hk1.from_ From.rfl_).rd 1 rfl))) ?_
  have hz23 := (((From.rfl_.next E1).next E19)).size
  refine st_call TrLawO_k7 (merge_rt A ca Ls.length Ls _ (ha.row.from_ ((From.rfl_.next E1).next E19)) rfl (by omega) (by omega)) ?_
  rintro v23 w4 ⟨⟨A23, c23, rfl, ho23⟩, E23⟩
  replace hk1 := hk1.from_ (From.rfl_.next E23)
  have hzq23 := trivial
  have hdl : (mD Ls).length ≤ 5000 := mD_len hl3
  refine mvt rfl ?_
  refine st_val (ro_extract rfl rfl) ?_
  refine st_val (ro_extract rfl rfl) ?_
  refine ass rfl ?_
  refine asi rfl ?_
  refine st_nil (nx_then ?_)
  refine cd_cut (G := Unit) [2, 5, 6, 7, 8, 9, 10, 11, 12, 26, 27, 28, 29, 30, 31, 32, 33, 34, 35, 36, 37, 38, 39, 40, 41, 42, 43, 44, 45, 46, 47, 48, 49, 50, 51, 52, 53, 54, 55, 56, 57, 58, 59, 60, 61, 62, 63, 64, 65, 66, 67, 68, 69, 70, 71, 72, 73, 74, 75, 76, 77, 78, 79, 80, 81, 82, 83, 84, 85, 86, 87, 88, 89, 90, 91, 92, 93, 94, 95, 96, 97] (fun _ => []) (fun _ w' => Blk w' b1 25 #[.slice A Ls.length ca, .slice B is.length cb] ∧ From w w') ?_ ?_
  · refine cd_seq (cd_region ?_)
    refine mvi rfl ?_
    refine st_call TrLawO_k9 (num_any _ _) ?_
    rintro v27 w5 ⟨rfl, rfl⟩
    refine st_val (ro_eql rfl rfl) ?_
    refine st_nil (nx_then ?_)
    refine cd_cond rfl (fun Q6 => ?_) (fun Q6 => ?_)
    · with_reducible replace Q6 := of_decide_eq_true Q6
      have hmE : mE Ls = 0 := by simpa using Q6
      refine cd_seq (cd_region ?_)
      refine ass rfl ?_
      refine st_nil (nx_then (cd_seq (cd_region ?_)))
      refine asi rfl ?_
      refine st_nil (nx_then (cd_seq (cd_region ?_)))
      refine ass rfl ?_
      refine st_nil (nx_then (cd_seq (cd_seq (cd_region ?_))))
      refine asi rfl ?_
      refine st_nil (nx_then (cd_block ?_))
      refine cd_loop (G := Nat × (Option Addr × Nat) × (Option Addr × Nat) × List Value) [2, 9, 10, 29, 30, 31, 32, 33, 34, 35, 36, 37, 38, 39, 40, 41, 42, 43, 44, 45, 46, 47, 48, 49, 50, 51, 52, 53, 54, 55, 56, 57, 58, 59, 60, 61, 62, 63, 64, 65, 66, 67, 68, 69, 70, 71] (fun (i, (A5, c5), (A7, c7), _) => [(8, .int .i64 (i : Nat)), (5, .slice A5 i c5), (6, .int .i64 (((Ls.take i).flatten.length : Nat) : Int)), (7, .slice A7 (srtD (Ls.take i).flatten).length c7)]) (fun (i, (A5, c5), (A7, c7), vs) w' => i ≤ Ls.length ∧ vs.length = i ∧ w'.ownsRow w.heap.size 27 1 (.slice A5 i c5) i vs ∧ Cps w Ls.reverse vs ∧ w'.ownsRow w.heap.size 43 2 (.slice A7 (srtD (Ls.take i).flatten).length c7) (srtD (Ls.take i).flatten).length (List.flatMap dV (srtD (Ls.take i).flatten)) ∧ w'.ownsRow w.heap.size 43 2 (.slice A23 (mD Ls).length c23) (mD Ls).length (List.flatMap dV (mD Ls)) ∧ Blk w' b1 25 #[.slice A Ls.length ca, .slice B is.length cb] ∧ From w w') (fun (i, _) => Ls.length - i) ((0, (none, 0), (none, 0), [])) ⟨rfl, rfl, rfl, (by rw [srt_nil]; rfl), trivial⟩ ?_ ?_
      · exact ⟨Nat.zero_le _, rfl, World.ownsRow_nil _ _ _ _, fun j h => absurd h (by simp), (by rw [srt_nil]; exact World.ownsRow_nil _ _ _ _), own_le (ho23.kept_from From.rfl_) hz23, hk1.from_ From.rfl_, (((From.rfl_.next E1).next E19).next E23)⟩
      rintro ⟨i, ⟨A5, c5⟩, ⟨A7, c7⟩, vs⟩ ρ7 w7 ⟨hi, hvl, ho5, hcp, ho7, ho23, hP1, hB⟩
      refine cd_seq (cd_seq (cd_region ?_))
      refine mvi rfl ?_
      refine st_val (ro_fieldAddr TrLawO_f25_0 rfl) ?_
      refine st_val (ro_load TrLawO_g22 rfl (by first | (first | exact (hP1.from_ From.rfl_).whole | exact (hP1.from_ From.rfl_).rd 0 rfl | exact (hP1.from_ From.rfl_).rd 1 rfl) | (first | exact (hk1.from_ From.rfl_).whole | exact (hk1.from_ From.rfl_).rd 0 rfl | exact (hk1.from_ From.rfl_).rd 1 rfl))) ?_
      refine st_val (ro_len TrLawO_l22 rfl) ?_
      refine st_val (ro_lss rfl rfl) ?_
      refine st_nil (nx_then ?_)
      refine cd_cond rfl (fun Q8 => ?_) (fun Q8 => ?_)
      · with_reducible replace Q8 := of_decide_eq_true Q8
        obtain ⟨bL, oL, rfl, hcs⟩ := ha.row (by omega)
        have hil : i < Ls.length := by omega
        obtain ⟨Ai, ci, hci, hri, hni⟩ := hcs i hil
        have hfl := fl_len hil
        have hfm := fl_le (Ls := Ls) (i + 1)
        have hrl : Ls.length - 1 - i < Ls.length := by omega
        obtain ⟨Ar, cr, hcr, hrr, hnr⟩ := hcs (Ls.length - 1 - i) hrl
        obtain ⟨hir1, hir2⟩ := rev_at (Ls := Ls) (i := i) hil
        have h2E := (two_ok hmE hil).1
        have h2D := (two_ok hmE hil).2
        have hsl := srt_len (i := i) hmE
        refine cd_skip (nx_then (cd_seq (cd_block (cd_seq (cd_region ?_)))))
        refine mvs rfl ?_
        refine st_val (ro_fieldAddr TrLawO_f25_0 rfl) ?_
        refine st_val (ro_load TrLawO_g22 rfl (by first | (first | exact (hP1.from_ From.rfl_).whole | exact (hP1.from_ From.rfl_).rd 0 rfl | exact (hP1.from_ From.rfl_).rd 1 rfl) | (first | exact (hk1.from_ From.rfl_).whole | exact (hk1.from_ From.rfl_).rd 0 rfl | exact (hk1.from_ From.rfl_).rd 1 rfl))) ?_
        refine st_val (ro_fieldAddr TrLawO_f25_0 rfl) ?_
        refine st_val (ro_load TrLawO_g22 rfl (by first | (first | exact (hP1.from_ From.rfl_).whole | exact (hP1.from_ From.rfl_).rd 0 rfl | exact (hP1.from_ From.rfl_).rd 1 rfl) | (first | exact (hk1.from_ From.rfl_).whole | exact (hk1.from_ From.rfl_).rd 0 rfl | exact (hk1.from_ From.rfl_).rd 1 rfl))) ?_
        refine st_val (ro_len TrLawO_l22 rfl) ?_
        refine st_val (ro_subN (b := 1) rfl rfl (by omega)) ?_
        refine mvi rfl ?_
        refine st_val (ro_subN rfl rfl (by omega)) ?_
        refine st_val (ro_indexAddr1 TrLawO_e22 rfl rfl (by omega)) ?_
        refine st_val (ro_load TrLawO_g27 rfl (by exact cellF hB hcr)) ?_
        refine st_lit1 (v := .slice _ _ _) TrLawO_q22 rfl rfl rfl ?_
        intro b47 w9 E47 hb47 hk47
        refine st_push1 (a0 := w) TrLawO_q22 rfl rfl (ho5.kept_from (From.rfl_.next E47)) (hB.next E47) rfl hk47 rfl (by omega) (by omega) ?_
        intro A48 c48 w10 ho48 B48 hg48
        have hcp2 := hcp.snoc hvl hir1 (by rw [hir2]; exact hrr) hnr
        rw [hir2] at hcp2
        have ho7b := own_aside (ho7.kept_from (From.rfl_.next E47)) hg48 (own_apart (ho5.kept_from (From.rfl_.next E47)) (ho7.kept_from (From.rfl_.next E47)) (by decide))
        have ho23b := own_aside (ho23.kept_from (From.rfl_.next E47)) hg48 (own_apart (ho5.kept_from (From.rfl_.next E47)) (ho23.kept_from (From.rfl_.next E47)) (by decide))
        have hP2 := (hP1.from_ (From.rfl_.next E47)).grown hg48 (own_off (ho5.kept_from (From.rfl_.next E47)) (hP1.from_ (From.rfl_.next E47)) (by decide))
        replace hP1 := hP2
        have hr7b := (RowK.own dV_len (by decide) ho7b).2
        refine ass rfl ?_
        refine st_nil (nx_then (cd_seq (cd_region ?_)))
        refine mvi rfl ?_
        refine st_val (ro_fieldAddr TrLawO_f25_0 rfl) ?_
        refine st_val (ro_load TrLawO_g22 rfl (by first | (first | exact (hP1.from_ From.rfl_).whole | exact (hP1.from_ From.rfl_).rd 0 rfl | exact (hP1.from_ From.rfl_).rd 1 rfl) | (first | exact (hk1.from_ From.rfl_).whole | exact (hk1.from_ From.rfl_).rd 0 rfl | exact (hk1.from_ From.rfl_).rd 1 rfl))) ?_
        refine mvi rfl ?_
        refine st_val (ro_indexAddr1 TrLawO_e22 rfl rfl (by omega)) ?_
        refine st_val (ro_load TrLawO_g27 rfl (by exact cellF B48 hci)) ?_
        refine st_val (ro_len TrLawO_l27 rfl) ?_
        refine st_val (ro_addN rfl rfl (by omega)) ?_
        refine asi rfl ?_
        refine st_nil (nx_then (cd_seq (cd_region ?_)))
        refine mvs rfl ?_
        refine st_val (ro_fieldAddr TrLawO_f25_0 rfl) ?_
        refine st_val (ro_load TrLawO_g22 rfl (by first | (first | exact (hP1.from_ From.rfl_).whole | exact (hP1.from_ From.rfl_).rd 0 rfl | exact (hP1.from_ From.rfl_).rd 1 rfl) | (first | exact (hk1.from_ From.rfl_).whole | exact (hk1.from_ From.rfl_).rd 0 rfl | exact (hk1.from_ From.rfl_).rd 1 rfl))) ?_
        refine mvi rfl ?_
        refine st_val (ro_indexAddr1 TrLawO_e22 rfl rfl (by omega)) ?_
        refine st_val (ro_load TrLawO_g27 rfl (by exact cellF B48 hci)) ?_
        refine st_lits [.tmp 58, .tmp 63] [.slice _ _ _, .slice _ _ _] TrLawO_q22 rfl rfl rfl rfl (by simp [Value.cells]) ?_
        intro b64 w11 E64 hb64 hk64
        have hz65 := ((B48.next E64)).size
        refine st_call TrLawO_k7 (merge_rt (some ⟨b64, 0, none⟩) 2 2 [(srtD (Ls.take i).flatten), Ls[i]] _ (rowLL2 hk64 (hr7b.from_ (From.rfl_.next E64)) (hri.from_ (B48.next E64)) (fun h9 => by subst h9; exact own_none ho7) hni) rfl (by omega) (by show ((srtD (Ls.take i).flatten) ++ (Ls[i] ++ [])).length ≤ _; simp only [List.length_append, List.length_nil]; omega)) ?_
        rintro v65 w12 ⟨⟨A65, c65, rfl, ho65⟩, E65⟩
        rw [h2E]
        refine mvt rfl ?_
        refine st_val (ro_extract rfl rfl) ?_
        refine st_val (ro_extract rfl rfl) ?_
        refine ass rfl ?_
        refine asi rfl ?_
        refine st_nil (nx_then (cd_seq (cd_seq (cd_region ?_))))
        refine mvi rfl ?_
        refine st_call TrLawO_k9 (num_any _ _) ?_
        rintro v69 w13 ⟨rfl, rfl⟩
        refine st_val (ro_bf (ro_neq rfl rfl) (bne_self_eq_false _)) ?_
        refine st_nil (nx_then ?_)
        refine cd_condF rfl ?_
        refine cd_skip (nx_then (cd_region ?_))
        refine mvs rfl ?_
        refine ass rfl ?_
        refine st_nil (nx_block (nx_then (cd_region ?_)))
        refine mvi rfl ?_
        refine st_val (ro_addN (b := 1) rfl rfl (by omega)) ?_
        refine asi rfl ?_
        refine st_nil ?_
        refine nx_cut ((i + 1, (A48, c48), (A65, c65), vs ++ [.slice Ar (Ls[Ls.length - 1 - i]).length cr])) ⟨rfl, rfl, (int_eq (by rw [hfl])), (by rw [h2D]; rfl), trivial⟩ (by (iterate 99 refine agr_cons rfl ?_); exact agr_rfl) ⟨?_, ?_⟩
        · exact ⟨by omega, by rw [List.length_append, hvl]; rfl, ho48.kept_from ((From.rfl_.next E64).next E65), hcp2, (by have h9 := own_le ho65 hz65; rw [h2D] at h9; exact h9.kept_from (From.rfl_)), ho23b.kept_from ((From.rfl_.next E64).next E65), hP2.from_ ((From.rfl_.next E64).next E65), ((B48.next E64).next E65)⟩
        · show Ls.length - (i + 1) < Ls.length - i; omega
      with_reducible replace Q8 := of_decide_eq_false Q8
      have hi9 : i = Ls.length := by omega
      have hrv := (mE_rev hmE).2
      have hrE := (mE_rev hmE).1
      have hst : srtD (Ls.take i).flatten = mD Ls := by rw [hi9, List.take_length]; exact (mD_all hmE).1
      have hnn : ((((mD Ls).length : Nat) : Int) != (((Ls.take i).flatten.length : Nat) : Int)) = false := by rw [hi9, List.take_length, (mD_all hmE).2]; exact bne_self_eq_false _
      refine cd_exit ?_
      refine ex_then (ex_then (ex_block (nx_then (cd_seq (cd_region ?_)))))
      refine mvs rfl ?_
      refine st_call TrLawO_k7 (merge_rt A5 c5 i Ls.reverse _ (((hcp.from_ hB).row (ho5.kept_from From.rfl_) (by rw [List.length_reverse]; exact hi9))) (by rw [List.length_reverse]; exact hi9) (by omega) (by rw [(rev_perm Ls).length_eq]; omega)) ?_
      rintro v74 w14 ⟨⟨A74, c74, rfl, ho74⟩, E74⟩
      rw [hrE, hrv]
      refine mvt rfl ?_
      refine st_val (ro_extract rfl rfl) ?_
      refine st_val (ro_extract rfl rfl) ?_
      refine ass rfl ?_
      refine asi rfl ?_
      refine st_nil (nx_then (cd_seq (cd_region ?_)))
      refine mvi rfl ?_
      refine st_call TrLawO_k9 (num_any _ _) ?_
      rintro v78 w15 ⟨rfl, rfl⟩
      refine st_val (ro_bf (ro_neq rfl rfl) (bne_self_eq_false _)) ?_
      refine mvb rfl ?_
      refine st_unguard rfl ?_
      refine mvs rfl ?_
      refine st_unguard rfl ?_
      refine mvs rfl ?_
      refine st_unguard rfl ?_
      refine st_call TrLawO_k10 (eqDocs_same A23 A74 c23 c74 (mD Ls).length (mD Ls).length (mD Ls) _ (((RowK.own dV_len (by decide) ho23).2.from_ (From.rfl_.next E74))) ((by have h9 := (RowK.own dV_len (by decide) ho74).2; rw [hrv] at h9; exact h9)) rfl rfl (by omega)) ?_
      rintro v83 w16 ⟨rfl, E83⟩
      refine st_unguard rfl ?_
      refine st_val (ro_bf (ro_not rfl) rfl) ?_
      refine st_val (ro_pickF (v := .bool _) rfl rfl) ?_
      refine mvb rfl ?_
      refine st_unguard rfl ?_
      refine mvs rfl ?_
      refine st_unguard rfl ?_
      refine mvs rfl ?_
      refine st_unguard rfl ?_
      refine st_call TrLawO_k10 (eqDocs_same A23 A7 c23 c7 (mD Ls).length (srtD (Ls.take i).flatten).length (mD Ls) _ ((RowK.own dV_len (by decide) ho23).2.from_ ((From.rfl_.next E74).next E83)) (by have h9 := (RowK.own dV_len (by decide) ho7).2; rw [hst] at h9; exact h9.from_ ((From.rfl_.next E74).next E83)) rfl (by rw [hst]) (by omega)) ?_
      rintro v89 w17 ⟨rfl, E89⟩
      refine st_unguard rfl ?_
      refine st_val (ro_bf (ro_not rfl) rfl) ?_
      refine st_val (ro_pickF (v := .bool _) rfl rfl) ?_
      refine mvb rfl ?_
      refine st_unguard rfl ?_
      refine mvs rfl ?_
      refine st_unguard rfl ?_
      refine st_val (ro_len TrLawO_l27 rfl) ?_
      refine st_unguard rfl ?_
      refine mvi rfl ?_
      refine st_unguard rfl ?_
      refine st_val (ro_bf (ro_neq rfl rfl) hnn) ?_
      refine st_val (ro_pickF (v := .bool _) rfl rfl) ?_
      refine st_nil (nx_then ?_)
      refine cd_condF rfl ?_
      refine cd_skip ?_
      refine nx_cut (()) trivial (by (iterate 90 refine agr_cons rfl ?_); exact agr_rfl) ?_
      exact ⟨by first | exact hP1.from_ (((From.rfl_.next E74).next E83).next E89) | exact hk1.from_ (((From.rfl_.next E74).next E83).next E89), (((hB.next E74).next E83).next E89)⟩
    with_reducible replace Q6 := of_decide_eq_false Q6
    refine cd_skip ?_
    refine nx_cut (()) trivial (by (iterate 3 refine agr_cons rfl ?_); exact agr_rfl) ?_
    exact ⟨by first | exact hP1.from_ From.rfl_ | exact hk1.from_ From.rfl_, (((From.rfl_.next E1).next E19).next E23)⟩
  rintro _ ρ18 w18 ⟨hk1, hB⟩
  refine cd_seq (cd_region ?_)
  refine st_val (ro_fieldAddr TrLawO_f25_1 rfl) ?_
  refine st_val (ro_load TrLawO_g23 rfl (by first | (first | exact (hP1.from_ From.rfl_).whole | exact (hP1.from_ From.rfl_).rd 0 rfl | exact (hP1.from_ From.rfl_).rd 1 rfl) | (first | exact (hk1.from_ From.rfl_).whole | exact (hk1.from_ From.rfl_).rd 0 rfl | exact (hk1.from_ From.rfl_).rd 1 rfl))) ?_
  refine st_call TrLawO_k13 (plan_rt B cb is.length is _ (ha.rowI.from_ hB) rfl ha.fit (by omega)) ?_
  rintro v101 w19 ⟨rfl, E101⟩
  replace hk1 := hk1.from_ (From.rfl_.next E101)
  refine mvt rfl ?_
  refine st_val (ro_extract rfl rfl) ?_
  refine st_val (ro_extract rfl rfl) ?_
  refine asi rfl ?_
  refine asb rfl ?_
  refine st_nil (nx_then (cd_seq (cd_seq (cd_region ?_))))
  refine asi rfl ?_
  refine st_nil (nx_then (cd_block ?_))
  refine cd_loop (G := Nat) [2, 16, 17, 104, 105, 106, 107, 108, 109, 110, 111, 112, 113, 114, 115, 116, 117, 118, 119, 120, 121, 122, 123, 124, 125, 126, 127, 128, 129, 130, 131, 132, 133, 134, 135, 136, 137, 138, 139, 140, 141, 142, 143] (fun i => [(15, .int .i64 (i : Nat))]) (fun i w' => i ≤ is.length + 1 ∧ (∀ q, q < i → win (is.map cls) q = false) ∧ Blk w' b1 25 #[.slice A Ls.length ca, .slice B is.length cb] ∧ From w w') (fun i => is.length + 1 - i) (0) ⟨rfl, trivial⟩ ?_ ?_
  · exact ⟨Nat.zero_le _, fun q h => absurd h (by omega), hk1.from_ From.rfl_, (hB.next E101)⟩
  rintro i ρ20 w20 ⟨hi, hw0, hP1, hB⟩
  refine cd_seq (cd_seq (cd_region ?_))
  refine mvi rfl ?_
  refine st_val (ro_addN (b := 4) rfl rfl (by omega)) ?_
  refine st_val (ro_fieldAddr TrLawO_f25_1 rfl) ?_
  refine st_val (ro_load TrLawO_g23 rfl (by first | (first | exact (hP1.from_ From.rfl_).whole | exact (hP1.from_ From.rfl_).rd 0 rfl | exact (hP1.from_ From.rfl_).rd 1 rfl) | (first | exact (hk1.from_ From.rfl_).whole | exact (hk1.from_ From.rfl_).rd 0 rfl | exact (hk1.from_ From.rfl_).rd 1 rfl))) ?_
  refine st_val (ro_len TrLawO_l23 rfl) ?_
  refine st_val (ro_leq rfl rfl) ?_
  refine st_nil (nx_then ?_)
  refine cd_cond rfl (fun Q21 => ?_) (fun Q21 => ?_)
  · with_reducible replace Q21 := of_decide_eq_true Q21
    obtain ⟨bI, oI, rfl, hcI⟩ := ha.rowI (by omega)
    refine cd_skip (nx_then (cd_seq (cd_block (cd_seq (cd_region ?_)))))
    refine asb rfl ?_
    refine st_nil (nx_then (cd_seq (cd_seq (cd_region ?_))))
    refine asi rfl ?_
    refine st_nil (nx_then (cd_block ?_))
    refine cd_loop (G := Nat × Bool) [112, 113, 114, 115, 116, 117, 118, 119, 120, 121, 122, 123, 124, 125, 126, 127, 128, 129, 130, 131, 132, 133] (fun (t, b) => [(17, .int .i64 ((t + 1 : Nat) : Int)), (16, .bool b)]) (fun (t, b) w' => t ≤ 3 ∧ b = sm (is.map cls) i t ∧ Blk w' b1 25 #[.slice A Ls.length ca, .slice (some ⟨bI, oI, none⟩) is.length cb] ∧ From w w') (fun (t, _) => 4 - t) ((0, true)) ⟨rfl, rfl, trivial⟩ ?_ ?_
    · exact ⟨Nat.zero_le _, rfl, hP1.from_ From.rfl_, hB⟩
    rintro ⟨t, b⟩ ρ22 w22 ⟨ht, hb, hP1, hB⟩
    refine cd_seq (cd_seq (cd_region ?_))
    refine mvi rfl ?_
    refine st_val (ro_lss rfl rfl) ?_
    refine st_nil (nx_then ?_)
    refine cd_cond rfl (fun Q23 => ?_) (fun Q23 => ?_)
    · with_reducible replace Q23 := of_decide_eq_true Q23
      refine cd_skip (nx_then (cd_seq (cd_block ?_)))
      rcases b with _ | _
      · apply cd_drawnD 19 [(116, eqp _), (117, eqp _), (118, eqp _), (119, eqp _), (120, eqp _), (121, eqp _), (122, eqp _), (123, eqp _), (124, eqp _), (125, eqp _), (126, eqp _), (127, eqp _), (128, eqp _), (129, eqp _), (130, eqp _), (131, eqp _), (132, eqp _), (133, eqp _), (16, eqp _)] (by repeat first | exact pq_body | refine pq_then ?_ | refine pq_block ?_) (by kernel_rfl) (by kernel_rfl) ⟨eqp_mono _, eqp_mono _, eqp_mono _, eqp_mono _, eqp_mono _, eqp_mono _, eqp_mono _, eqp_mono _, eqp_mono _, eqp_mono _, eqp_mono _, eqp_mono _, eqp_mono _, eqp_mono _, eqp_mono _, eqp_mono _, eqp_mono _, eqp_mono _, eqp_mono _, trivial⟩
        case hop =>
         refine ⟨?_, ?_⟩
         · rintro - w25 D25
           show OpOK _ _ _ _ _ _ _
           exact ok_pure (ro_move rfl) rfl
         refine ⟨?_, ?_⟩
         · rintro - w26 D26
           rintro _ rfl
           show OpOK _ _ _ _ _ _ _
           exact ok_pure (ro_move rfl) rfl
         refine ⟨?_, ?_⟩
         · rintro - w27 D27
           rintro _ rfl
           show OpOK _ _ _ _ _ _ _
           exact ok_gno rfl rfl rfl
         refine ⟨?_, ?_⟩
         · rintro - w28 D28
           rintro _ rfl _ rfl
           show OpOK _ _ _ _ _ _ _
           exact ok_gno rfl rfl rfl
         refine ⟨?_, ?_⟩
         · rintro - w29 D29
           rintro _ rfl
           show OpOK _ _ _ _ _ _ _
           exact ok_gno rfl rfl rfl
         refine ⟨?_, ?_⟩
         · rintro - w30 D30
           rintro _ rfl _ rfl _ rfl
           show OpOK _ _ _ _ _ _ _
           exact ok_gno rfl rfl rfl
         refine ⟨?_, ?_⟩
         · rintro - w31 D31
           rintro _ rfl _ rfl
           show OpOK _ _ _ _ _ _ _
           exact ok_gno rfl rfl rfl
         refine ⟨?_, ?_⟩
         · rintro - w32 D32
           rintro _ rfl _ rfl
           show OpOK _ _ _ _ _ _ _
           exact ok_gno rfl rfl rfl
         refine ⟨?_, ?_⟩
         · rintro - w33 D33
           rintro _ rfl
           show OpOK _ _ _ _ _ _ _
           exact ok_gno rfl rfl rfl
         refine ⟨?_, ?_⟩
         · rintro - w34 D34
           rintro _ rfl _ rfl
           show OpOK _ _ _ _ _ _ _
           exact ok_gno rfl rfl rfl
         refine ⟨?_, ?_⟩
         · rintro - w35 D35
           rintro _ rfl
           show OpOK _ _ _ _ _ _ _
           exact ok_gno rfl rfl rfl
         refine ⟨?_, ?_⟩
         · rintro - w36 D36
           rintro _ rfl
           show OpOK _ _ _ _ _ _ _
           exact ok_gno rfl rfl rfl
         refine ⟨?_, ?_⟩
         · rintro - w37 D37
           rintro _ rfl _ rfl _ rfl
           show OpOK _ _ _ _ _ _ _
           exact ok_gno rfl rfl rfl
         refine ⟨?_, ?_⟩
         · rintro - w38 D38
           rintro _ rfl _ rfl _ rfl
           show OpOK _ _ _ _ _ _ _
           exact ok_gno rfl rfl rfl
         refine ⟨?_, ?_⟩
         · rintro - w39 D39
           rintro _ rfl _ rfl
           show OpOK _ _ _ _ _ _ _
           exact ok_gno rfl rfl rfl
         refine ⟨?_, ?_⟩
         · rintro - w40 D40
           rintro _ rfl _ rfl
           show OpOK _ _ _ _ _ _ _
           exact ok_gno rfl rfl rfl
         refine ⟨?_, ?_⟩
         · rintro - w41 D41
           rintro _ rfl _ rfl _ rfl
           show OpOK _ _ _ _ _ _ _
           exact ok_gno rfl rfl rfl
         refine ⟨?_, ?_⟩
         · rintro - w42 D42
           rintro _ rfl _ rfl
           show OpOK _ _ _ _ _ _ _
           exact ok_pure (ro_pickF (v := .bool _) rfl rfl) rfl
         refine ⟨?_, ?_⟩
         · rintro - w43 D43
           rintro _ rfl
           show OpOK _ _ _ _ _ _ _
           exact ok_pure (ro_assign (v := .bool _) rfl) rfl
         exact trivial
        case hend =>
         intro w44 D44
         rintro _ rfl _ rfl _ rfl _ rfl _ rfl _ rfl _ rfl _ rfl _ rfl _ rfl _ rfl _ rfl _ rfl _ rfl _ rfl _ rfl _ rfl _ rfl _ rfl
         show St _ _ _ _ _ _ _
         obtain ⟨b2, hb2⟩ : ∃ b2, b2 = false := ⟨_, rfl⟩
         refine st_nil (nx_block (nx_then (cd_region ?_)))
         refine mvi rfl ?_
         refine st_val (ro_addN (b := 1) rfl rfl (by omega)) ?_
         refine asi rfl ?_
         refine st_nil ?_
         refine nx_cut ((t + 1, b2)) ⟨rfl, (by rw [hb2]; (first | done | rfl)), trivial⟩ (by (iterate 48 refine agr_cons rfl ?_); exact agr_rfl) ⟨?_, ?_⟩
         · exact ⟨by omega, by rw [hb2, sm_next (by omega), ← hb]; rfl, hP1.from_ (From.rfl_.next D44), (hB.next D44)⟩
         · show 4 - (t + 1) < 4 - t; omega
      apply cd_drawnD 19 [(116, eqp _), (117, eqp _), (118, eqp _), (119, eqp _), (120, eqp _), (121, eqp _), (122, eqp (.int .i64 is[i])), (123, eqp _), (124, eqp _), (125, eqp _), (126, eqp _), (127, eqp _), (128, eqp _), (129, eqp _), (130, eqp (.int .i64 is[i + (t + 1)])), (131, eqp _), (132, eqp _), (133, eqp _), (16, eqp _)] (by repeat first | exact pq_body | refine pq_then ?_ | refine pq_block ?_) (by kernel_rfl) (by kernel_rfl) ⟨eqp_mono _, eqp_mono _, eqp_mono _, eqp_mono _, eqp_mono _, eqp_mono _, eqp_mono _, eqp_mono _, eqp_mono _, eqp_mono _, eqp_mono _, eqp_mono _, eqp_mono _, eqp_mono _, eqp_mono _, eqp_mono _, eqp_mono _, eqp_mono _, eqp_mono _, trivial⟩
      case hop =>
       refine ⟨?_, ?_⟩
       · rintro - w46 D46
         show OpOK _ _ _ _ _ _ _
         exact ok_pure (ro_move rfl) rfl
       refine ⟨?_, ?_⟩
       · rintro - w47 D47
         rintro _ rfl
         show OpOK _ _ _ _ _ _ _
         exact ok_pure (ro_move rfl) rfl
       refine ⟨?_, ?_⟩
       · rintro - w48 D48
         rintro _ rfl
         show OpOK _ _ _ _ _ _ _
         exact ok_gpure rfl (ro_fieldAddr TrLawO_f25_1 rfl) rfl
       refine ⟨?_, ?_⟩
       · rintro - w49 D49
         rintro _ rfl _ rfl
         show OpOK _ _ _ _ _ _ _
         exact ok_gpure rfl (ro_load TrLawO_g23 rfl (by first | (first | exact (hP1.from_ (From.rfl_.next D49)).whole | exact (hP1.from_ (From.rfl_.next D49)).rd 0 rfl | exact (hP1.from_ (From.rfl_.next D49)).rd 1 rfl) | (first | exact (hk1.from_ (From.rfl_.next D49)).whole | exact (hk1.from_ (From.rfl_.next D49)).rd 0 rfl | exact (hk1.from_ (From.rfl_.next D49)).rd 1 rfl))) rfl
       refine ⟨?_, ?_⟩
       · rintro - w50 D50
         rintro _ rfl
         show OpOK _ _ _ _ _ _ _
         exact ok_gpure rfl (ro_move (v := .int _ _) rfl) rfl
       refine ⟨?_, ?_⟩
       · rintro - w51 D51
         rintro _ rfl _ rfl _ rfl
         show OpOK _ _ _ _ _ _ _
         exact ok_gpure rfl (ro_indexAddr1 TrLawO_e23 rfl rfl (by omega)) rfl
       refine ⟨?_, ?_⟩
       · rintro - w52 D52
         rintro _ rfl _ rfl
         show OpOK _ _ _ _ _ _ _
         exact ok_gpure rfl (ro_load (v := .int .i64 is[i]) TrLawO_g3 rfl (cellF (hB.next D52) (hcI (i) (by omega)))) rfl
       refine ⟨?_, ?_⟩
       · rintro - w53 D53
         rintro _ rfl v53_122 rfl
         show OpOK _ _ _ _ _ _ _
         refine ok_gcall rfl TrLawO_k14 ((class_rt is[i] _ (ha.fit _ (List.getElem_mem (by omega))).2).mono ?_)
         rintro v _ ⟨rfl, rfl⟩; exact ⟨From.rfl_, rfl⟩
       refine ⟨?_, ?_⟩
       · rintro - w54 D54
         rintro _ rfl
         show OpOK _ _ _ _ _ _ _
         exact ok_gpure rfl (ro_fieldAddr TrLawO_f25_1 rfl) rfl
       refine ⟨?_, ?_⟩
       · rintro - w55 D55
         rintro _ rfl _ rfl
         show OpOK _ _ _ _ _ _ _
         exact ok_gpure rfl (ro_load TrLawO_g23 rfl (by first | (first | exact (hP1.from_ (From.rfl_.next D55)).whole | exact (hP1.from_ (From.rfl_.next D55)).rd 0 rfl | exact (hP1.from_ (From.rfl_.next D55)).rd 1 rfl) | (first | exact (hk1.from_ (From.rfl_.next D55)).whole | exact (hk1.from_ (From.rfl_.next D55)).rd 0 rfl | exact (hk1.from_ (From.rfl_.next D55)).rd 1 rfl))) rfl
       refine ⟨?_, ?_⟩
       · rintro - w56 D56
         rintro _ rfl
         show OpOK _ _ _ _ _ _ _
         exact ok_gpure rfl (ro_move (v := .int _ _) rfl) rfl
       refine ⟨?_, ?_⟩
       · rintro - w57 D57
         rintro _ rfl
         show OpOK _ _ _ _ _ _ _
         exact ok_gpure rfl (ro_move (v := .int _ _) rfl) rfl
       refine ⟨?_, ?_⟩
       · rintro - w58 D58
         rintro _ rfl _ rfl _ rfl
         show OpOK _ _ _ _ _ _ _
         exact ok_gpure rfl (ro_addN rfl rfl (by omega)) rfl
       refine ⟨?_, ?_⟩
       · rintro - w59 D59
         rintro _ rfl _ rfl _ rfl
         show OpOK _ _ _ _ _ _ _
         exact ok_gpure rfl (ro_indexAddr1 TrLawO_e23 rfl rfl (by omega)) rfl
       refine ⟨?_, ?_⟩
       · rintro - w60 D60
         rintro _ rfl _ rfl
         show OpOK _ _ _ _ _ _ _
         exact ok_gpure rfl (ro_load (v := .int .i64 is[i + (t + 1)]) TrLawO_g3 rfl (cellF (hB.next D60) (hcI (i + (t + 1)) (by omega)))) rfl
       refine ⟨?_, ?_⟩
       · rintro - w61 D61
         rintro _ rfl v61_130 rfl
         show OpOK _ _ _ _ _ _ _
         refine ok_gcall rfl TrLawO_k14 ((class_rt is[i + (t + 1)] _ (ha.fit _ (List.getElem_mem (by omega))).2).mono ?_)
         rintro v _ ⟨rfl, rfl⟩; exact ⟨From.rfl_, rfl⟩
       refine ⟨?_, ?_⟩
       · rintro - w62 D62
         rintro _ rfl _ rfl _ rfl
         show OpOK _ _ _ _ _ _ _
         exact ok_gpure rfl (ro_eql rfl rfl) rfl
       refine ⟨?_, ?_⟩
       · rintro - w63 D63
         rintro _ rfl _ rfl
         show OpOK _ _ _ _ _ _ _
         exact ok_pure (ro_pickT (v := .bool _) rfl rfl) rfl
       refine ⟨?_, ?_⟩
       · rintro - w64 D64
         rintro _ rfl
         show OpOK _ _ _ _ _ _ _
         exact ok_pure (ro_assign (v := .bool _) rfl) rfl
       exact trivial
      case hend =>
       intro w65 D65
       rintro _ rfl _ rfl _ rfl _ rfl _ rfl _ rfl v122 rfl _ rfl _ rfl _ rfl _ rfl _ rfl _ rfl _ rfl v130 rfl _ rfl _ rfl _ rfl _ rfl
       show St _ _ _ _ _ _ _
       obtain ⟨b2, hb2⟩ : ∃ b2, b2 = (((cls is[i] : Nat) : Int) == ((cls is[i + (t + 1)] : Nat) : Int)) := ⟨_, rfl⟩
       refine st_nil (nx_block (nx_then (cd_region ?_)))
       refine mvi rfl ?_
       refine st_val (ro_addN (b := 1) rfl rfl (by omega)) ?_
       refine asi rfl ?_
       refine st_nil ?_
       refine nx_cut ((t + 1, b2)) ⟨rfl, (by rw [hb2]; (first | done | rfl)), trivial⟩ (by (iterate 48 refine agr_cons rfl ?_); exact agr_rfl) ⟨?_, ?_⟩
       · exact ⟨by omega, by rw [hb2, sm_next (by omega), ← hb]; rfl, hP1.from_ (From.rfl_.next D65), (hB.next D65)⟩
       · show 4 - (t + 1) < 4 - t; omega
    with_reducible replace Q23 := of_decide_eq_false Q23
    refine cd_exit ?_
    refine ex_then (ex_then (ex_block (nx_then (cd_seq (cd_region ?_)))))
    refine mvb rfl ?_
    refine st_nil (nx_then ?_)
    refine cd_cond rfl (fun Q66 => ?_) (fun Q66 => ?_)
    · have hwt : win (is.map cls) i = true := by
        rw [← sm_win (by rw [List.length_map]; omega)]
        have h9 : t = 3 := by omega
        rw [h9] at hb
        rw [← hb]
        simpa using Q66
      have hpl := plan_yes hwt hw0
      refine cd_seq (cd_region ?_)
      refine st_val (ro_eq (v' := .bool true) (ro_move rfl) (by rw [hpl]; rfl)) ?_
      refine mvb rfl ?_
      refine st_unguard rfl ?_
      refine st_val (ro_eq (v' := .int .i64 (i : Nat)) (ro_move rfl) (by rw [hpl]; rfl)) ?_
      refine st_unguard rfl ?_
      refine mvi rfl ?_
      refine st_unguard rfl ?_
      refine st_val (ro_bt (ro_eql rfl rfl) (beq_self_eq_true _)) ?_
      refine st_val (ro_pickT (v := .bool _) rfl rfl) ?_
      refine mvb rfl ?_
      refine st_unguard rfl ?_
      refine st_call TrLawO_k12 (wakes_rt _) ?_
      rintro v142 w67 ⟨rfl, E142⟩
      refine st_val (ro_pickT (v := .bool _) rfl rfl) ?_
      refine asb rfl ?_
      refine st_nil (nx_then (cd_ret (rt_block (rt_then (rt_then (rt_block (rt_then ?_)))))))
      refine res1 (v := .bool _) rfl rfl ?_
      exact ⟨rfl, (hB.next E142)⟩
    have hwf : win (is.map cls) i = false := by
      rw [← sm_win (by rw [List.length_map]; omega)]
      have h9 : t = 3 := by omega
      rw [h9] at hb
      rw [← hb]
      simpa using Q66
    refine cd_skip (nx_block (nx_then (cd_region ?_)))
    refine mvi rfl ?_
    refine st_val (ro_addN (b := 1) rfl rfl (by omega)) ?_
    refine asi rfl ?_
    refine st_nil ?_
    refine nx_cut (i + 1) ⟨(by first | rfl | (refine int_eq ?_; omega)), trivial⟩ (by (iterate 82 refine agr_cons rfl ?_); exact agr_rfl) ⟨?_, ?_⟩
    · exact ⟨by omega, fun q hq => by
        rcases Nat.eq_or_lt_of_le (Nat.le_of_lt_succ hq) with e | e
        · subst e; exact hwf
        · exact hw0 q e, hP1.from_ From.rfl_, hB⟩
    · show is.length + 1 - (i + 1) < is.length + 1 - i; omega
  with_reducible replace Q21 := of_decide_eq_false Q21
  have hpl : plan (is.map cls) = (0, false) := plan_no fun q hq => hw0 q (by rw [List.length_map] at hq; omega)
  refine cd_exit ?_
  refine ex_then (ex_then (ex_block (nx_then (cd_seq (cd_region ?_)))))
  refine st_val (ro_eq (v' := .bool false) (ro_move rfl) (by rw [hpl]; rfl)) ?_
  refine st_val (ro_bt (ro_not rfl) rfl) ?_
  refine mvb rfl ?_
  refine st_unguard rfl ?_
  refine st_val (ro_eq (v' := .int .i64 0) (ro_move rfl) (by rw [hpl]; rfl)) ?_
  refine st_unguard rfl ?_
  refine st_val (ro_bt (ro_eql rfl rfl) rfl) ?_
  refine st_val (ro_pickT (v := .bool _) rfl rfl) ?_
  refine mvb rfl ?_
  refine st_unguard rfl ?_
  refine st_call TrLawO_k12 (wakes_rt _) ?_
  rintro v151 w68 ⟨rfl, E151⟩
  refine st_val (ro_pickT (v := .bool _) rfl rfl) ?_
  refine asb rfl ?_
  refine st_nil (nx_then (cd_ret ?_))
  refine res1 (v := .bool _) rfl rfl ?_
  exact ⟨rfl, (hB.next E151)⟩
theorem orders_arg (cs : Array Value) (x : (Ty.pr (Ty.sl (.sl docT)) (.pr (.sl (.int .i64)) .unit)).den) (w : World) (hs : cs.size = 2) (h : (Ty.pr (Ty.sl (.sl docT)) (.pr (.sl (.int .i64)) .unit)).At w (fun j => cs[j]?) x) :
    Rt Try.prog 4 [.agg cs] w fun v w' => v = .bool true ∧ From w w' := by
  obtain ⟨A, B, ca, cb, Ls, is, rfl, ha⟩ := ask_of12 hs h
  exact orders_law A B ca cb Ls is w ha
theorem TiersOrders_lifted (os : Os) (started : os.Started) (H : Type) (enc : TypeId × Value → H) :
    ReturnsInHanded {} Try.checked os 4 .any (Rows.tiersOrdersSpec.pre6 enc Try.prog Try.f4 Rows.tiersOrdersRow.domain false) (Rows.tiersOrdersSpec.post enc Try.prog Try.f4 false true false false) := by
  refine returnsInHanded_of_change_sized (C := Try.checked) Try.own started (by kernel_rfl) Try.func4
    (ChangeSpec.witness6 (enc := enc) (C := Try.checked) false ⟨#[], #[.agg #[.slice none 0 0, .slice none 0 0]], []⟩ 8 (by kernel_rfl) (by kernel_rfl) (by kernel_rfl) (by kernel_rfl)) ?_
  intro W base args ds gs before hval hW _ hsz _
  exact law_step 4 Try.f4 25 4 Rows.tiersOrdersSpec Try.params4 (by kernel_rfl) Try.underlying4 rfl (fun _ => rfl) (by kernel_rfl) (of_decide_eq_true (by kernel_rfl)) (walk_struct (Ty.sl (.sl docT)) (.pr (.sl (.int .i64)) .unit) (by kernel_rfl) orders_arg) W base args ds gs before hval hW hsz

theorem TiersOrders_holds : Rows.TiersOrdersSaid :=
  OpenClaim.holds_of_wide 4 Try.f4 rfl rfl rfl rfl rfl rfl rfl ⟨rfl, rfl, rfl, rfl, rfl⟩ rfl rfl rfl rfl rfl (by kernel_rfl) Try.func4 (by kernel_rfl)
    (of_decide_eq_true (by kernel_rfl)) (by unfold Func.isWrapper; first | (rw [if_pos (by decide +kernel)]; kernel_rfl) | (rw [if_neg (by decide +kernel)]; exact ⟨rfl, rfl⟩))
    (fun os started H enc _ => TiersOrders_lifted os started H enc)
#print axioms TiersOrders_holds

end Go.Proofs.Ytllpcjdljgmilaa
