/- The law TiersOrders. -/
import Derived.Test.YtllpcjdljgmilaaMgTrLawM2
set_option maxRecDepth 100000
namespace Go.Proofs.Ytllpcjdljgmilaa
open Go.RowKit
open Go.ChangeShapes Go.WideShapes Go.ChangeAt
theorem TrRef_e27 : elemQ Try.prog 27 = some (43, 2) := by kernel_rfl
theorem TrRef_q27 : litQ Try.prog 27 = some (43, 2, 32, (.agg #[.string ⟨#[]⟩, .string ⟨#[]⟩])) := by kernel_rfl
theorem TrRef_g9 : aggQ Try.prog 9 = some false := by kernel_rfl
theorem TrRef_l22 : (elemQ Try.prog 22).isSome = true := by kernel_rfl
theorem TrRef_e22 : elemQ Try.prog 22 = some (27, 1) := by kernel_rfl
theorem TrRef_g27 : aggQ Try.prog 27 = some false := by kernel_rfl
theorem TrRef_l27 : (elemQ Try.prog 27).isSome = true := by kernel_rfl
theorem TrRef_f43_0 : fieldQ Try.prog 43 0 = some 0 := by kernel_rfl
theorem TrRef_k6 : callable Try.prog 6 = true := by kernel_rfl
theorem TrRef_g43 : aggQ Try.prog 43 = some true := by kernel_rfl
theorem TrRef_z43 : sizeQ Try.prog 43 = some 2 := by kernel_rfl
theorem own_tail {w : World} {base e n c k : Nat} {A : Option Addr} {xs : List Dc} (h : w.ownsRow base e 2 (.slice A n c) n (xs.flatMap dV)) (hk : k ≤ n) : (0 < n - k → ∃ b o, restOf A c k 2 = some ⟨b, o, none⟩ ∧ w.rangeAt b o ((xs.drop k).flatMap dV)) ∧ (restOf A c k 2 = none → c - k = 0) := by
  have hl := RowK.own dV_len (by decide) h
  have hc := own_cap h
  refine ⟨fun h0 => ?_, fun h0 => ?_⟩
  · obtain ⟨g, rfl⟩ := own_some h (by omega)
    obtain ⟨b, o, e, hcs⟩ := hl.2 (by omega)
    cases e
    rw [restOf_pos (by omega)]
    have h2 : RowK 2 dV w (some ⟨g, 0 + k * 2, none⟩) (xs.drop k) := RowK.drop (b := g) (o := 0) hl.2 k (by omega)
    obtain ⟨b, o, e, hr⟩ := h2.flat dV_len (by rw [List.length_drop]; omega)
    cases e
    exact ⟨_, _, rfl, hr⟩
  · cases A with
    | none =>
      rcases h.2 with ⟨h1, _⟩ | ⟨g, cap, cur, hv, _⟩
      · simp only [Value.slice.injEq] at h1; omega
      · simp only [Value.slice.injEq] at hv; cases hv.1
    | some a =>
      unfold restOf at h0
      split at h0
      · omega
      · cases h0
theorem dup_no {Ls : List (List Dc)} {i : Nat} (hi : i < Ls.length) {ds : List Dc} (hds : Ls[i] = ds) {k : Nat} (hk : k < ds.length) {out : List Dc} (hp : out.Perm ((Ls.take i).flatten ++ ds.take k)) {a : Nat} (ha : a < out.length) (e : (SM.G Dz out a).1 = (SM.G Dz ds k).1) : ¬ Dif Ls.flatten := fun h => by
  have e1 : Ls.flatten = ((Ls.take i).flatten ++ ds.take k) ++ (ds.drop k ++ (Ls.drop (i + 1)).flatten) := by
    have e2 : Ls.flatten = (Ls.take i).flatten ++ (Ls.drop i).flatten := by rw [← List.flatten_append, List.take_append_drop]
    rw [e2, List.drop_eq_getElem_cons hi, List.flatten_cons, hds, List.append_assoc, ← List.append_assoc (ds.take k), List.take_append_drop]
  rw [e1] at h
  have h1 := (List.pairwise_append.1 h).2.2 (SM.G Dz out a) (hp.mem_iff.1 (by rw [G_d0 ha]; exact List.getElem_mem _)) (SM.G Dz ds k) (List.mem_append_left _ (by rw [G_d0 hk, List.drop_eq_getElem_cons hk]; exact List.mem_cons_self ..))
  exact h1 e
theorem ins_len {out : List Dc} {d : Dc} {a : Nat} (h : a ≤ out.length) : (out.take a ++ d :: out.drop a).length = a + 1 + (out.length - a) := by
  rw [List.length_append, List.length_cons, List.length_take, List.length_drop]; omega
theorem ins_flat {out : List Dc} {d : Dc} {a : Nat} : List.flatMap dV (out.take a ++ [d]) ++ List.flatMap dV (out.drop a) = List.flatMap dV (out.take a ++ d :: out.drop a) := by
  rw [← List.flatMap_append, List.append_assoc]; rfl
theorem ins_step {T ds out : List Dc} {a k : Nat} (hk : k < ds.length) (hp : out.Perm (T ++ ds.take k)) : (out.take a ++ SM.G Dz ds k :: out.drop a).Perm (T ++ ds.take (k + 1)) := by
  rw [List.take_succ_eq_append_getElem hk, ← List.append_assoc, ← G_d0 hk]
  exact ins_perm.trans (hp.append_right _)
set_option maxHeartbeats 8000000 in
theorem refMerge_rt (A : Option Addr) (c n : Nat) (Ls : List (List Dc)) (w : World) (hr : RowLL w A Ls) (hn : n = Ls.length) (hl : n ≤ 100000000) (hf : Ls.flatten.length ≤ 100000000) :
    Rt Try.prog 8 [.slice A n c] w (fun v w' => (∃ A' c', v = .tuple #[.slice A' (mD Ls).length c', .int .i64 (mE Ls)] ∧ w'.ownsRow w.heap.size 43 2 (.slice A' (mD Ls).length c') (mD Ls).length (List.flatMap dV (mD Ls))) ∧ From w w') := by
  refine enter (n := 120) Try.func8 rfl rfl rfl ?_
  refine cd_seq (cd_region ?_)
  refine ass rfl ?_
  refine asi rfl ?_
  refine st_nil (nx_then (cd_seq (cd_seq (cd_region ?_))))
  refine asi rfl ?_
  refine st_nil (nx_then (cd_block ?_))
  refine cd_loop (G := Nat) [2, 3, 5, 11, 12, 13, 14, 15, 16, 17, 18, 19, 20, 21, 22, 23, 24, 25, 26, 27, 28, 29, 30, 31, 32, 33, 34, 35, 36, 37, 38, 39, 40, 41, 42, 43] (fun i => [(4, .int .i64 (i : Nat))]) (fun i w' => i ≤ n ∧ (∀ l ∈ Ls.take i, SD l) ∧ From w w') (fun i => n - i) (0) ⟨rfl, trivial⟩ ?_ ?_
  · exact ⟨Nat.zero_le _, fun l h => by simp at h, From.rfl_⟩
  rintro i ρ1 w1 ⟨hi, hsd, hB⟩
  refine cd_seq (cd_seq (cd_region ?_))
  refine mvi rfl ?_
  refine mvs rfl ?_
  refine st_val (ro_len TrRef_l22 rfl) ?_
  refine st_val (ro_lss rfl rfl) ?_
  refine st_nil (nx_then ?_)
  refine cd_cond rfl (fun Q2 => ?_) (fun Q2 => ?_)
  · with_reducible replace Q2 := of_decide_eq_true Q2
    obtain ⟨b, o, rfl, hcs⟩ := hr (by omega)
    have hil : i < Ls.length := by omega
    obtain ⟨Ai, ci, hci, hri, hni⟩ := hcs i hil
    have hfl := fl_len hil
    have hfm := fl_le (Ls := Ls) (i + 1)
    have hsd0 := hsd
    obtain ⟨ds, hds⟩ : ∃ ds, Ls[i] = ds := ⟨_, rfl⟩
    rw [hds] at hci hri hfl
    refine cd_skip (nx_then (cd_seq (cd_block (cd_seq (cd_region ?_)))))
    refine asi rfl ?_
    refine st_nil (nx_then (cd_block ?_))
    refine cd_loop (G := Nat) [2, 3, 17, 18, 19, 20, 21, 22, 23, 24, 25, 26, 27, 28, 29, 30, 31, 32, 33, 34, 35, 36, 37, 38, 39, 40, 41, 42, 43] (fun k => [(5, .int .i64 (k : Nat))]) (fun k w' => 1 ≤ k ∧ (∀ x, 0 < x → x < k → x < ds.length → sLt (SM.G Dz ds (x - 1)).1 (SM.G Dz ds x).1) ∧ From w w') (fun k => ds.length - k) (1) ⟨rfl, trivial⟩ ?_ ?_
    · exact ⟨Nat.le_refl _, fun x h1 h2 => absurd h1 (by omega), hB⟩
    rintro k ρ3 w3 ⟨hk1, hok, hB⟩
    refine cd_seq (cd_seq (cd_region ?_))
    refine mvi rfl ?_
    refine mvs rfl ?_
    refine mvi rfl ?_
    refine st_val (ro_indexAddr1 TrRef_e22 rfl rfl (by omega)) ?_
    refine st_val (ro_load TrRef_g27 rfl (by exact cellF hB hci)) ?_
    refine st_val (ro_len TrRef_l27 rfl) ?_
    refine st_val (ro_lss rfl rfl) ?_
    refine st_nil (nx_then ?_)
    refine cd_cond rfl (fun Q4 => ?_) (fun Q4 => ?_)
    · with_reducible replace Q4 := of_decide_eq_true Q4
      obtain ⟨bd, od, rfl, hcd⟩ := hri (by omega)
      have hcG : ∀ x, x < ds.length → w.rangeAt bd (od + x * 2) (dV (SM.G Dz ds x)) := fun x hx => by rw [G_d0 hx]; exact hcd x hx
      refine cd_skip (nx_then (cd_seq (cd_block (cd_seq ?_))))
      apply cd_drawnD 18 [(26, eqp _), (27, eqp _), (28, eqp _), (29, eqp _), (30, eqp _), (31, eqp _), (32, eqp _), (33, eqp _), (34, eqp (.string (SM.G Dz ds (k - 1)).1)), (35, eqp _), (36, eqp _), (37, eqp _), (38, eqp _), (39, eqp _), (40, eqp _), (41, eqp _), (42, eqp (.string (SM.G Dz ds k).1)), (43, eqp _)] (by repeat first | exact pq_body | refine pq_then ?_ | refine pq_block ?_) (by kernel_rfl) (by kernel_rfl) ⟨eqp_mono _, eqp_mono _, eqp_mono _, eqp_mono _, eqp_mono _, eqp_mono _, eqp_mono _, eqp_mono _, eqp_mono _, eqp_mono _, eqp_mono _, eqp_mono _, eqp_mono _, eqp_mono _, eqp_mono _, eqp_mono _, eqp_mono _, eqp_mono _, trivial⟩
      case hop =>
       refine ⟨?_, ?_⟩
       · rintro - w6 D6
         show OpOK _ _ _ _ _ _ _
         exact ok_pure (ro_move (v := .slice _ _ _) rfl) rfl
       refine ⟨?_, ?_⟩
       · rintro - w7 D7
         show OpOK _ _ _ _ _ _ _
         exact ok_pure (ro_move (v := .int _ _) rfl) rfl
       refine ⟨?_, ?_⟩
       · rintro - w8 D8
         rintro _ rfl _ rfl
         show OpOK _ _ _ _ _ _ _
         exact ok_pure (ro_indexAddr1 TrRef_e22 rfl rfl (by omega)) rfl
       refine ⟨?_, ?_⟩
       · rintro - w9 D9
         rintro _ rfl
         show OpOK _ _ _ _ _ _ _
         exact ok_pure (ro_load TrRef_g27 rfl (by exact cellF (hB.next D9) hci)) rfl
       refine ⟨?_, ?_⟩
       · rintro - w10 D10
         show OpOK _ _ _ _ _ _ _
         exact ok_pure (ro_move (v := .int _ _) rfl) rfl
       refine ⟨?_, ?_⟩
       · rintro - w11 D11
         rintro _ rfl
         show OpOK _ _ _ _ _ _ _
         exact ok_pure (ro_subN (b := 1) rfl rfl (by omega)) rfl
       refine ⟨?_, ?_⟩
       · rintro - w12 D12
         rintro _ rfl _ rfl
         show OpOK _ _ _ _ _ _ _
         exact ok_pure (ro_indexAddrN TrRef_e27 rfl rfl (by omega)) rfl
       refine ⟨?_, ?_⟩
       · rintro - w13 D13
         rintro _ rfl
         show OpOK _ _ _ _ _ _ _
         exact ok_pure (ro_fieldAddr TrRef_f43_0 rfl) rfl
       refine ⟨?_, ?_⟩
       · rintro - w14 D14
         rintro _ rfl
         show OpOK _ _ _ _ _ _ _
         exact ok_pure (ro_load (v := .string (SM.G Dz ds (k - 1)).1) TrRef_g9 rfl (cellF (hB.next D14) (hcG (k - 1) (by omega) 0 _ rfl))) rfl
       refine ⟨?_, ?_⟩
       · rintro - w15 D15
         show OpOK _ _ _ _ _ _ _
         exact ok_pure (ro_move (v := .slice _ _ _) rfl) rfl
       refine ⟨?_, ?_⟩
       · rintro - w16 D16
         show OpOK _ _ _ _ _ _ _
         exact ok_pure (ro_move (v := .int _ _) rfl) rfl
       refine ⟨?_, ?_⟩
       · rintro - w17 D17
         rintro _ rfl _ rfl
         show OpOK _ _ _ _ _ _ _
         exact ok_pure (ro_indexAddr1 TrRef_e22 rfl rfl (by omega)) rfl
       refine ⟨?_, ?_⟩
       · rintro - w18 D18
         rintro _ rfl
         show OpOK _ _ _ _ _ _ _
         exact ok_pure (ro_load TrRef_g27 rfl (by exact cellF (hB.next D18) hci)) rfl
       refine ⟨?_, ?_⟩
       · rintro - w19 D19
         show OpOK _ _ _ _ _ _ _
         exact ok_pure (ro_move (v := .int _ _) rfl) rfl
       refine ⟨?_, ?_⟩
       · rintro - w20 D20
         rintro _ rfl _ rfl
         show OpOK _ _ _ _ _ _ _
         exact ok_pure (ro_indexAddrN TrRef_e27 rfl rfl (by omega)) rfl
       refine ⟨?_, ?_⟩
       · rintro - w21 D21
         rintro _ rfl
         show OpOK _ _ _ _ _ _ _
         exact ok_pure (ro_fieldAddr TrRef_f43_0 rfl) rfl
       refine ⟨?_, ?_⟩
       · rintro - w22 D22
         rintro _ rfl
         show OpOK _ _ _ _ _ _ _
         exact ok_pure (ro_load (v := .string (SM.G Dz ds k).1) TrRef_g9 rfl (cellF (hB.next D22) (hcG k (by omega) 0 _ rfl))) rfl
       refine ⟨?_, ?_⟩
       · rintro - w23 D23
         rintro v23_34 rfl v23_42 rfl
         show OpOK _ _ _ _ _ _ _
         exact ok_pure (ro_geqS rfl rfl) rfl
       exact trivial
      case hend =>
       intro w24 D24
       rintro _ rfl _ rfl _ rfl _ rfl _ rfl _ rfl _ rfl _ rfl v34 rfl _ rfl _ rfl _ rfl _ rfl _ rfl _ rfl _ rfl v42 rfl _ rfl
       show St _ _ _ _ _ _ _
       refine st_nil (nx_then ?_)
       refine cd_cond rfl (fun Q25 => ?_) (fun Q25 => ?_)
       · with_reducible replace Q25 := bn_t Q25
         have hnl : ¬ sLt (SM.G Dz ds (k - 1)).1 (SM.G Dz ds k).1 := fun h => by
           have h9 := (sLt_dec _ _).2 h
           simp_all
         refine cd_seq (cd_region ?_)
         refine ass rfl ?_
         refine asi rfl ?_
         refine st_nil (nx_then (cd_ret (rt_block (rt_then (rt_then (rt_block (rt_block (rt_then (rt_then (rt_block (rt_then ?_)))))))))))
         refine res2 (v := .slice _ _ _) (v' := .int _ _) rfl rfl rfl ?_
         have he : mE Ls = 1 := mE_1 (List.getElem_mem hil) (by rw [hds]; exact fun h => hnl (h.get (i := k - 1) (j := k) (by omega) (by omega)))
         rw [mD_no (by rw [he]; decide), he]
         exact ⟨⟨none, 0, rfl, World.ownsRow_nil _ _ _ _⟩, (hB.next D24)⟩
       with_reducible replace Q25 := bn_f Q25
       have hlt : sLt (SM.G Dz ds (k - 1)).1 (SM.G Dz ds k).1 := (sLt_dec _ _).1 (by simpa using Q25)
       refine cd_skip (nx_block (nx_then (cd_region ?_)))
       refine mvi rfl ?_
       refine st_val (ro_addN (b := 1) rfl rfl (by omega)) ?_
       refine asi rfl ?_
       refine st_nil ?_
       refine nx_cut (k + 1) ⟨(by first | rfl | (refine int_eq ?_; omega)), trivial⟩ (by (iterate 58 refine agr_cons rfl ?_); exact agr_rfl) ⟨?_, ?_⟩
       · exact ⟨by omega, fun x h1 h2 h3 => by
           rcases Nat.eq_or_lt_of_le (Nat.le_of_lt_succ h2) with e | e
           · subst e; exact hlt
           · exact hok x h1 e h3, (hB.next D24)⟩
       · show ds.length - (k + 1) < ds.length - k; omega
    with_reducible replace Q4 := of_decide_eq_false Q4
    have hsd : SD ds := SD.near fun x h1 h2 => hok x h1 (by omega) h2
    refine cd_exit ?_
    refine ex_then (ex_then (ex_block (nx_block (nx_then (cd_region ?_)))))
    refine mvi rfl ?_
    refine st_val (ro_add64 rfl rfl (by omega)) ?_
    refine asi rfl ?_
    refine st_nil ?_
    refine nx_cut (i + 1) ⟨(by first | rfl | (refine int_eq ?_; omega)), trivial⟩ (by (iterate 82 refine agr_cons rfl ?_); exact agr_rfl) ⟨?_, ?_⟩
    · exact ⟨by omega, fun l hl => by
        rw [List.take_succ_eq_append_getElem hil, List.mem_append, List.mem_singleton, hds] at hl
        rcases hl with e | e
        · exact hsd0 l e
        · rw [e]; exact hsd, hB⟩
    · show n - (i + 1) < n - i; omega
  with_reducible replace Q2 := of_decide_eq_false Q2
  have hall : ∀ l ∈ Ls, SD l := fun l hl => hsd l (by rw [List.take_of_length_le (by omega)]; exact hl)
  refine cd_exit ?_
  refine ex_then (ex_then (ex_block (nx_then (cd_seq (cd_region ?_)))))
  refine ass rfl ?_
  refine st_nil (nx_then (cd_seq (cd_seq (cd_region ?_))))
  refine asi rfl ?_
  refine st_nil (nx_then (cd_block ?_))
  refine cd_loop (G := Nat × (Option Addr × Nat) × List Dc) [2, 3, 8, 9, 10, 44, 45, 46, 47, 48, 49, 50, 51, 52, 53, 54, 55, 56, 57, 58, 59, 60, 61, 62, 63, 64, 65, 66, 67, 68, 69, 70, 71, 72, 73, 74, 75, 76, 77, 78, 79, 80, 81, 82, 83, 84, 85, 86, 87, 88, 89, 90, 91, 92, 93, 94, 95, 96, 97, 98, 99, 100, 101, 102, 103, 104, 105, 106, 107, 108, 109, 110, 111, 112, 113, 114, 115, 116, 117, 118] (fun (i, (A6, c6), out) => [(7, .int .i64 (i : Nat)), (6, .slice A6 out.length c6)]) (fun (i, (A6, c6), out) w' => i ≤ n ∧ w'.ownsRow w.heap.size 43 2 (.slice A6 out.length c6) out.length (List.flatMap dV out) ∧ SD out ∧ out.Perm (Ls.take i).flatten ∧ From w w') (fun (i, _, _) => n - i) ((0, (none, 0), [])) ⟨rfl, rfl, trivial⟩ ?_ ?_
  · exact ⟨Nat.zero_le _, World.ownsRow_nil _ _ _ _, List.Pairwise.nil, .refl _, hB⟩
  rintro ⟨i, ⟨A6, c6⟩, out⟩ ρ26 w26 ⟨hi, hoo, hso, hpo, hB⟩
  refine cd_seq (cd_seq (cd_region ?_))
  refine mvi rfl ?_
  refine mvs rfl ?_
  refine st_val (ro_len TrRef_l22 rfl) ?_
  refine st_val (ro_lss rfl rfl) ?_
  refine st_nil (nx_then ?_)
  refine cd_cond rfl (fun Q27 => ?_) (fun Q27 => ?_)
  · with_reducible replace Q27 := of_decide_eq_true Q27
    obtain ⟨b, o, rfl, hcs⟩ := hr (by omega)
    have hil : i < Ls.length := by omega
    obtain ⟨Ai, ci, hci, hri, hni⟩ := hcs i hil
    have hfl := fl_len hil
    have hfm := fl_le (Ls := Ls) (i + 1)
    obtain ⟨ds, hds⟩ : ∃ ds, Ls[i] = ds := ⟨_, rfl⟩
    rw [hds] at hci hri hfl
    refine cd_skip (nx_then (cd_seq (cd_block (cd_seq (cd_region ?_)))))
    refine asi rfl ?_
    refine st_nil (nx_then (cd_block ?_))
    refine cd_loop (G := Nat × (Option Addr × Nat) × List Dc) [2, 3, 9, 10, 50, 51, 52, 53, 54, 55, 56, 57, 58, 59, 60, 61, 62, 63, 64, 65, 66, 67, 68, 69, 70, 71, 72, 73, 74, 75, 76, 77, 78, 79, 80, 81, 82, 83, 84, 85, 86, 87, 88, 89, 90, 91, 92, 93, 94, 95, 96, 97, 98, 99, 100, 101, 102, 103, 104, 105, 106, 107, 108, 109, 110, 111, 112, 113, 114, 115, 116, 117, 118] (fun (k, (A6, c6), out) => [(8, .int .i64 (k : Nat)), (6, .slice A6 out.length c6)]) (fun (k, (A6, c6), out) w' => k ≤ ds.length ∧ w'.ownsRow w.heap.size 43 2 (.slice A6 out.length c6) out.length (List.flatMap dV out) ∧ SD out ∧ out.Perm ((Ls.take i).flatten ++ ds.take k) ∧ From w w') (fun (k, _, _) => ds.length - k) ((0, (A6, c6), out)) ⟨rfl, rfl, trivial⟩ ?_ ?_
    · exact ⟨Nat.zero_le _, hoo, hso, by simpa using hpo, hB⟩
    rintro ⟨k, ⟨A6, c6⟩, out⟩ ρ28 w28 ⟨hk, hoo, hso, hpo, hB⟩
    have hol := hpo.length_eq
    rw [List.length_append, List.length_take] at hol
    refine cd_seq (cd_seq (cd_region ?_))
    refine mvi rfl ?_
    refine mvs rfl ?_
    refine mvi rfl ?_
    refine st_val (ro_indexAddr1 TrRef_e22 rfl rfl (by omega)) ?_
    refine st_val (ro_load TrRef_g27 rfl (by exact cellF hB hci)) ?_
    refine st_val (ro_len TrRef_l27 rfl) ?_
    refine st_val (ro_lss rfl rfl) ?_
    refine st_nil (nx_then ?_)
    refine cd_cond rfl (fun Q29 => ?_) (fun Q29 => ?_)
    · with_reducible replace Q29 := of_decide_eq_true Q29
      obtain ⟨bd, od, rfl, hcd⟩ := hri (by omega)
      have hcG : ∀ x, x < ds.length → w.rangeAt bd (od + x * 2) (dV (SM.G Dz ds x)) := fun x hx => by rw [G_d0 hx]; exact hcd x hx
      refine cd_skip (nx_then (cd_seq (cd_block (cd_seq (cd_region ?_)))))
      refine asi rfl ?_
      refine st_nil (nx_then ?_)
      refine cd_cut (G := Nat) [59, 60, 61, 62, 63, 64, 65, 66, 67, 68, 69, 70, 71, 72, 73, 74, 75, 76, 77, 78, 79, 80] (fun a => [(9, .int .i64 (a : Nat))]) (fun a w' => a ≤ out.length ∧ (∀ x, x < a → sLt (SM.G Dz out x).1 (SM.G Dz ds k).1) ∧ (a < out.length → ¬ sLt (SM.G Dz out a).1 (SM.G Dz ds k).1) ∧ w'.ownsRow w.heap.size 43 2 (.slice A6 out.length c6) out.length (List.flatMap dV out) ∧ From w w') ?_ ?_
      · refine cd_block ?_
        refine cd_loop (G := Nat) [59, 60, 61, 62, 63, 64, 65, 66, 67, 68, 69, 70, 71, 72, 73, 74, 75, 76, 77, 78, 79, 80] (fun a => [(9, .int .i64 (a : Nat))]) (fun a w' => a ≤ out.length ∧ (∀ x, x < a → sLt (SM.G Dz out x).1 (SM.G Dz ds k).1) ∧ w'.ownsRow w.heap.size 43 2 (.slice A6 out.length c6) out.length (List.flatMap dV out) ∧ From w w') (fun a => out.length - a) (0) ⟨rfl, trivial⟩ ?_ ?_
        · exact ⟨Nat.zero_le _, fun x h => absurd h (by omega), hoo, hB⟩
        rintro a ρ30 w30 ⟨ha, hlo, hoo, hB⟩
        refine cd_seq (cd_seq ?_)
        have hsp : a < out.length ∨ out.length ≤ a := by omega
        rcases hsp with hal | hal
        · obtain ⟨g6, rfl⟩ := own_some hoo (by omega)
          apply cd_drawnD 20 [(59, eqp _), (60, eqp _), (61, eqp _), (62, eqp _), (63, eqp _), (64, eqp _), (65, eqp _), (66, eqp _), (67, eqp _), (68, eqp (.string (SM.G Dz out a).1)), (69, eqp _), (70, eqp _), (71, eqp _), (72, eqp _), (73, eqp _), (74, eqp _), (75, eqp _), (76, eqp (.string (SM.G Dz ds k).1)), (77, eqp _), (78, eqp _)] (by repeat first | exact pq_body | refine pq_then ?_ | refine pq_block ?_) (by kernel_rfl) (by kernel_rfl) ⟨eqp_mono _, eqp_mono _, eqp_mono _, eqp_mono _, eqp_mono _, eqp_mono _, eqp_mono _, eqp_mono _, eqp_mono _, eqp_mono _, eqp_mono _, eqp_mono _, eqp_mono _, eqp_mono _, eqp_mono _, eqp_mono _, eqp_mono _, eqp_mono _, eqp_mono _, eqp_mono _, trivial⟩
          case hop =>
           refine ⟨?_, ?_⟩
           · rintro - w32 D32
             show OpOK _ _ _ _ _ _ _
             exact ok_pure (ro_move (v := .int _ _) rfl) rfl
           refine ⟨?_, ?_⟩
           · rintro - w33 D33
             show OpOK _ _ _ _ _ _ _
             exact ok_pure (ro_move (v := .slice _ _ _) rfl) rfl
           refine ⟨?_, ?_⟩
           · rintro - w34 D34
             rintro _ rfl
             show OpOK _ _ _ _ _ _ _
             exact ok_pure (ro_len TrRef_l27 rfl) rfl
           refine ⟨?_, ?_⟩
           · rintro - w35 D35
             rintro _ rfl _ rfl
             show OpOK _ _ _ _ _ _ _
             exact ok_pure (ro_bt (ro_lss rfl rfl) (decide_eq_true (by omega))) rfl
           refine ⟨?_, ?_⟩
           · rintro - w36 D36
             rintro _ rfl
             show OpOK _ _ _ _ _ _ _
             exact ok_pure (ro_move (v := .bool _) rfl) rfl
           refine ⟨?_, ?_⟩
           · rintro - w37 D37
             rintro _ rfl
             show OpOK _ _ _ _ _ _ _
             exact ok_gpure rfl (ro_move (v := .slice _ _ _) rfl) rfl
           refine ⟨?_, ?_⟩
           · rintro - w38 D38
             rintro _ rfl
             show OpOK _ _ _ _ _ _ _
             exact ok_gpure rfl (ro_move (v := .int _ _) rfl) rfl
           refine ⟨?_, ?_⟩
           · rintro - w39 D39
             rintro _ rfl _ rfl _ rfl
             show OpOK _ _ _ _ _ _ _
             exact ok_gpure rfl (ro_indexAddrN TrRef_e27 rfl rfl (by omega)) rfl
           refine ⟨?_, ?_⟩
           · rintro - w40 D40
             rintro _ rfl _ rfl
             show OpOK _ _ _ _ _ _ _
             exact ok_gpure rfl (ro_fieldAddr TrRef_f43_0 rfl) rfl
           refine ⟨?_, ?_⟩
           · rintro - w41 D41
             rintro _ rfl _ rfl
             show OpOK _ _ _ _ _ _ _
             exact ok_gpure rfl (ro_load (v := .string (SM.G Dz out a).1) TrRef_g9 rfl (own_rd dV_len Dz (hoo.kept_from D41) (i := a) (by omega) 0 _ rfl)) rfl
           refine ⟨?_, ?_⟩
           · rintro - w42 D42
             rintro _ rfl
             show OpOK _ _ _ _ _ _ _
             exact ok_gpure rfl (ro_move (v := .slice _ _ _) rfl) rfl
           refine ⟨?_, ?_⟩
           · rintro - w43 D43
             rintro _ rfl
             show OpOK _ _ _ _ _ _ _
             exact ok_gpure rfl (ro_move (v := .int _ _) rfl) rfl
           refine ⟨?_, ?_⟩
           · rintro - w44 D44
             rintro _ rfl _ rfl _ rfl
             show OpOK _ _ _ _ _ _ _
             exact ok_gpure rfl (ro_indexAddr1 TrRef_e22 rfl rfl (by omega)) rfl
           refine ⟨?_, ?_⟩
           · rintro - w45 D45
             rintro _ rfl _ rfl
             show OpOK _ _ _ _ _ _ _
             exact ok_gpure rfl (ro_load TrRef_g27 rfl (by exact cellF (hB.next D45) hci)) rfl
           refine ⟨?_, ?_⟩
           · rintro - w46 D46
             rintro _ rfl
             show OpOK _ _ _ _ _ _ _
             exact ok_gpure rfl (ro_move (v := .int _ _) rfl) rfl
           refine ⟨?_, ?_⟩
           · rintro - w47 D47
             rintro _ rfl _ rfl _ rfl
             show OpOK _ _ _ _ _ _ _
             exact ok_gpure rfl (ro_indexAddrN TrRef_e27 rfl rfl (by omega)) rfl
           refine ⟨?_, ?_⟩
           · rintro - w48 D48
             rintro _ rfl _ rfl
             show OpOK _ _ _ _ _ _ _
             exact ok_gpure rfl (ro_fieldAddr TrRef_f43_0 rfl) rfl
           refine ⟨?_, ?_⟩
           · rintro - w49 D49
             rintro _ rfl _ rfl
             show OpOK _ _ _ _ _ _ _
             exact ok_gpure rfl (ro_load (v := .string (SM.G Dz ds k).1) TrRef_g9 rfl (cellF (hB.next D49) (hcG k (by omega) 0 _ rfl))) rfl
           refine ⟨?_, ?_⟩
           · rintro - w50 D50
             rintro _ rfl v50_68 rfl v50_76 rfl
             show OpOK _ _ _ _ _ _ _
             exact ok_gpure rfl (ro_lssS rfl rfl) rfl
           refine ⟨?_, ?_⟩
           · rintro - w51 D51
             rintro _ rfl _ rfl
             show OpOK _ _ _ _ _ _ _
             exact ok_pure (ro_pickT (v := .bool _) rfl rfl) rfl
           exact trivial
          case hend =>
           intro w52 D52
           rintro _ rfl _ rfl _ rfl _ rfl _ rfl _ rfl _ rfl _ rfl _ rfl v68 rfl _ rfl _ rfl _ rfl _ rfl _ rfl _ rfl _ rfl v76 rfl _ rfl _ rfl
           show St _ _ _ _ _ _ _
           replace hoo := hoo.kept_from D52
           refine st_nil (nx_then ?_)
           refine cd_cond rfl (fun Q53 => ?_) (fun Q53 => ?_)
           · have hlt : sLt (SM.G Dz out a).1 (SM.G Dz ds k).1 := (sLt_dec _ _).1 Q53
             refine cd_skip (nx_then (cd_block (cd_region ?_)))
             refine mvi rfl ?_
             refine st_val (ro_addN (b := 1) rfl rfl (by omega)) ?_
             refine asi rfl ?_
             refine st_nil (nx_block ?_)
             refine nx_cut (a + 1) ⟨(by first | rfl | (refine int_eq ?_; omega)), trivial⟩ (by (iterate 46 refine agr_cons rfl ?_); exact agr_rfl) ⟨?_, ?_⟩
             · exact ⟨by omega, fun x hx => by
                 rcases Nat.eq_or_lt_of_le (Nat.le_of_lt_succ hx) with e | e
                 · subst e; exact hlt
                 · exact hlo x e, hoo, (hB.next D52)⟩
             · show out.length - (a + 1) < out.length - a; omega
           have hnl : ¬ sLt (SM.G Dz out a).1 (SM.G Dz ds k).1 := fun h => by
             have h9 := (sLt_dec _ _).2 h
             simp_all
           refine cd_exit ?_
           refine ex_then (ex_then (ex_block ?_))
           refine nx_cut (a) ⟨(by first | rfl | (refine int_eq ?_; omega)), trivial⟩ (by (iterate 43 refine agr_cons rfl ?_); exact agr_rfl) ?_
           exact ⟨ha, hlo, fun h9 => by
             first
               | exact hnl
               | exact absurd h9 (by omega), hoo, (hB.next D52)⟩
        apply cd_drawnD 20 [(59, eqp _), (60, eqp _), (61, eqp _), (62, eqp _), (63, eqp _), (64, eqp _), (65, eqp _), (66, eqp _), (67, eqp _), (68, eqp _), (69, eqp _), (70, eqp _), (71, eqp _), (72, eqp _), (73, eqp _), (74, eqp _), (75, eqp _), (76, eqp _), (77, eqp _), (78, eqp _)] (by repeat first | exact pq_body | refine pq_then ?_ | refine pq_block ?_) (by kernel_rfl) (by kernel_rfl) ⟨eqp_mono _, eqp_mono _, eqp_mono _, eqp_mono _, eqp_mono _, eqp_mono _, eqp_mono _, eqp_mono _, eqp_mono _, eqp_mono _, eqp_mono _, eqp_mono _, eqp_mono _, eqp_mono _, eqp_mono _, eqp_mono _, eqp_mono _, eqp_mono _, eqp_mono _, eqp_mono _, trivial⟩
        case hop =>
         refine ⟨?_, ?_⟩
         · rintro - w55 D55
           show OpOK _ _ _ _ _ _ _
           exact ok_pure (ro_move (v := .int _ _) rfl) rfl
         refine ⟨?_, ?_⟩
         · rintro - w56 D56
           show OpOK _ _ _ _ _ _ _
           exact ok_pure (ro_move (v := .slice _ _ _) rfl) rfl
         refine ⟨?_, ?_⟩
         · rintro - w57 D57
           rintro _ rfl
           show OpOK _ _ _ _ _ _ _
           exact ok_pure (ro_len TrRef_l27 rfl) rfl
         refine ⟨?_, ?_⟩
         · rintro - w58 D58
           rintro _ rfl _ rfl
           show OpOK _ _ _ _ _ _ _
           exact ok_pure (ro_bf (ro_lss rfl rfl) (decide_eq_false (by omega))) rfl
         refine ⟨?_, ?_⟩
         · rintro - w59 D59
           rintro _ rfl
           show OpOK _ _ _ _ _ _ _
           exact ok_pure (ro_move (v := .bool _) rfl) rfl
         refine ⟨?_, ?_⟩
         · rintro - w60 D60
           rintro _ rfl
           show OpOK _ _ _ _ _ _ _
           exact ok_gno rfl rfl rfl
         refine ⟨?_, ?_⟩
         · rintro - w61 D61
           rintro _ rfl
           show OpOK _ _ _ _ _ _ _
           exact ok_gno rfl rfl rfl
         refine ⟨?_, ?_⟩
         · rintro - w62 D62
           rintro _ rfl _ rfl _ rfl
           show OpOK _ _ _ _ _ _ _
           exact ok_gno rfl rfl rfl
         refine ⟨?_, ?_⟩
         · rintro - w63 D63
           rintro _ rfl _ rfl
           show OpOK _ _ _ _ _ _ _
           exact ok_gno rfl rfl rfl
         refine ⟨?_, ?_⟩
         · rintro - w64 D64
           rintro _ rfl _ rfl
           show OpOK _ _ _ _ _ _ _
           exact ok_gno rfl rfl rfl
         refine ⟨?_, ?_⟩
         · rintro - w65 D65
           rintro _ rfl
           show OpOK _ _ _ _ _ _ _
           exact ok_gno rfl rfl rfl
         refine ⟨?_, ?_⟩
         · rintro - w66 D66
           rintro _ rfl
           show OpOK _ _ _ _ _ _ _
           exact ok_gno rfl rfl rfl
         refine ⟨?_, ?_⟩
         · rintro - w67 D67
           rintro _ rfl _ rfl _ rfl
           show OpOK _ _ _ _ _ _ _
           exact ok_gno rfl rfl rfl
         refine ⟨?_, ?_⟩
         · rintro - w68 D68
           rintro _ rfl _ rfl
           show OpOK _ _ _ _ _ _ _
           exact ok_gno rfl rfl rfl
         refine ⟨?_, ?_⟩
         · rintro - w69 D69
           rintro _ rfl
           show OpOK _ _ _ _ _ _ _
           exact ok_gno rfl rfl rfl
         refine ⟨?_, ?_⟩
         · rintro - w70 D70
           rintro _ rfl _ rfl _ rfl
           show OpOK _ _ _ _ _ _ _
           exact ok_gno rfl rfl rfl
         refine ⟨?_, ?_⟩
         · rintro - w71 D71
           rintro _ rfl _ rfl
           show OpOK _ _ _ _ _ _ _
           exact ok_gno rfl rfl rfl
         refine ⟨?_, ?_⟩
         · rintro - w72 D72
           rintro _ rfl _ rfl
           show OpOK _ _ _ _ _ _ _
           exact ok_gno rfl rfl rfl
         refine ⟨?_, ?_⟩
         · rintro - w73 D73
           rintro _ rfl _ rfl _ rfl
           show OpOK _ _ _ _ _ _ _
           exact ok_gno rfl rfl rfl
         refine ⟨?_, ?_⟩
         · rintro - w74 D74
           rintro _ rfl _ rfl
           show OpOK _ _ _ _ _ _ _
           exact ok_pure (ro_pickF (v := .bool _) rfl rfl) rfl
         exact trivial
        case hend =>
         intro w75 D75
         rintro _ rfl _ rfl _ rfl _ rfl _ rfl _ rfl _ rfl _ rfl _ rfl _ rfl _ rfl _ rfl _ rfl _ rfl _ rfl _ rfl _ rfl _ rfl _ rfl _ rfl
         show St _ _ _ _ _ _ _
         replace hoo := hoo.kept_from D75
         refine st_nil (nx_then ?_)
         refine cd_condF rfl ?_
         refine cd_exit ?_
         refine ex_then (ex_then (ex_block ?_))
         refine nx_cut (a) ⟨(by first | rfl | (refine int_eq ?_; omega)), trivial⟩ (by (iterate 43 refine agr_cons rfl ?_); exact agr_rfl) ?_
         exact ⟨ha, hlo, fun h9 => by
           first
             | exact hnl
             | exact absurd h9 (by omega), hoo, (hB.next D75)⟩
      rintro a ρ76 w76 ⟨ha, hlo, hhi, hoo, hB⟩
      refine cd_cut (G := Unit) [2, 3, 81, 82, 83, 84, 85, 86, 87, 88, 89, 90, 91, 92, 93, 94, 95, 96, 97, 98, 99, 100] (fun _ => []) (fun _ w' => (a < out.length → (SM.G Dz out a).1 ≠ (SM.G Dz ds k).1) ∧ w'.ownsRow w.heap.size 43 2 (.slice A6 out.length c6) out.length (List.flatMap dV out) ∧ From w w') ?_ ?_
      · refine cd_seq ?_
        have hsp : a < out.length ∨ out.length ≤ a := by omega
        rcases hsp with hal | hal
        · obtain ⟨g6, rfl⟩ := own_some hoo (by omega)
          apply cd_drawnD 20 [(81, eqp _), (82, eqp _), (83, eqp _), (84, eqp _), (85, eqp _), (86, eqp _), (87, eqp _), (88, eqp _), (89, eqp _), (90, eqp (.string (SM.G Dz out a).1)), (91, eqp _), (92, eqp _), (93, eqp _), (94, eqp _), (95, eqp _), (96, eqp _), (97, eqp _), (98, eqp (.string (SM.G Dz ds k).1)), (99, eqp _), (100, eqp _)] (by repeat first | exact pq_body | refine pq_then ?_ | refine pq_block ?_) (by kernel_rfl) (by kernel_rfl) ⟨eqp_mono _, eqp_mono _, eqp_mono _, eqp_mono _, eqp_mono _, eqp_mono _, eqp_mono _, eqp_mono _, eqp_mono _, eqp_mono _, eqp_mono _, eqp_mono _, eqp_mono _, eqp_mono _, eqp_mono _, eqp_mono _, eqp_mono _, eqp_mono _, eqp_mono _, eqp_mono _, trivial⟩
          case hop =>
           refine ⟨?_, ?_⟩
           · rintro - w78 D78
             show OpOK _ _ _ _ _ _ _
             exact ok_pure (ro_move (v := .int _ _) rfl) rfl
           refine ⟨?_, ?_⟩
           · rintro - w79 D79
             show OpOK _ _ _ _ _ _ _
             exact ok_pure (ro_move (v := .slice _ _ _) rfl) rfl
           refine ⟨?_, ?_⟩
           · rintro - w80 D80
             rintro _ rfl
             show OpOK _ _ _ _ _ _ _
             exact ok_pure (ro_len TrRef_l27 rfl) rfl
           refine ⟨?_, ?_⟩
           · rintro - w81 D81
             rintro _ rfl _ rfl
             show OpOK _ _ _ _ _ _ _
             exact ok_pure (ro_bt (ro_lss rfl rfl) (decide_eq_true (by omega))) rfl
           refine ⟨?_, ?_⟩
           · rintro - w82 D82
             rintro _ rfl
             show OpOK _ _ _ _ _ _ _
             exact ok_pure (ro_move (v := .bool _) rfl) rfl
           refine ⟨?_, ?_⟩
           · rintro - w83 D83
             rintro _ rfl
             show OpOK _ _ _ _ _ _ _
             exact ok_gpure rfl (ro_move (v := .slice _ _ _) rfl) rfl
           refine ⟨?_, ?_⟩
           · rintro - w84 D84
             rintro _ rfl
             show OpOK _ _ _ _ _ _ _
             exact ok_gpure rfl (ro_move (v := .int _ _) rfl) rfl
           refine ⟨?_, ?_⟩
           · rintro - w85 D85
             rintro _ rfl _ rfl _ rfl
             show OpOK _ _ _ _ _ _ _
             exact ok_gpure rfl (ro_indexAddrN TrRef_e27 rfl rfl (by omega)) rfl
           refine ⟨?_, ?_⟩
           · rintro - w86 D86
             rintro _ rfl _ rfl
             show OpOK _ _ _ _ _ _ _
             exact ok_gpure rfl (ro_fieldAddr TrRef_f43_0 rfl) rfl
           refine ⟨?_, ?_⟩
           · rintro - w87 D87
             rintro _ rfl _ rfl
             show OpOK _ _ _ _ _ _ _
             exact ok_gpure rfl (ro_load (v := .string (SM.G Dz out a).1) TrRef_g9 rfl (own_rd dV_len Dz (hoo.kept_from D87) (i := a) (by omega) 0 _ rfl)) rfl
           refine ⟨?_, ?_⟩
           · rintro - w88 D88
             rintro _ rfl
             show OpOK _ _ _ _ _ _ _
             exact ok_gpure rfl (ro_move (v := .slice _ _ _) rfl) rfl
           refine ⟨?_, ?_⟩
           · rintro - w89 D89
             rintro _ rfl
             show OpOK _ _ _ _ _ _ _
             exact ok_gpure rfl (ro_move (v := .int _ _) rfl) rfl
           refine ⟨?_, ?_⟩
           · rintro - w90 D90
             rintro _ rfl _ rfl _ rfl
             show OpOK _ _ _ _ _ _ _
             exact ok_gpure rfl (ro_indexAddr1 TrRef_e22 rfl rfl (by omega)) rfl
           refine ⟨?_, ?_⟩
           · rintro - w91 D91
             rintro _ rfl _ rfl
             show OpOK _ _ _ _ _ _ _
             exact ok_gpure rfl (ro_load TrRef_g27 rfl (by exact cellF (hB.next D91) hci)) rfl
           refine ⟨?_, ?_⟩
           · rintro - w92 D92
             rintro _ rfl
             show OpOK _ _ _ _ _ _ _
             exact ok_gpure rfl (ro_move (v := .int _ _) rfl) rfl
           refine ⟨?_, ?_⟩
           · rintro - w93 D93
             rintro _ rfl _ rfl _ rfl
             show OpOK _ _ _ _ _ _ _
             exact ok_gpure rfl (ro_indexAddrN TrRef_e27 rfl rfl (by omega)) rfl
           refine ⟨?_, ?_⟩
           · rintro - w94 D94
             rintro _ rfl _ rfl
             show OpOK _ _ _ _ _ _ _
             exact ok_gpure rfl (ro_fieldAddr TrRef_f43_0 rfl) rfl
           refine ⟨?_, ?_⟩
           · rintro - w95 D95
             rintro _ rfl _ rfl
             show OpOK _ _ _ _ _ _ _
             exact ok_gpure rfl (ro_load (v := .string (SM.G Dz ds k).1) TrRef_g9 rfl (cellF (hB.next D95) (hcG k (by omega) 0 _ rfl))) rfl
           refine ⟨?_, ?_⟩
           · rintro - w96 D96
             rintro _ rfl v96_90 rfl v96_98 rfl
             show OpOK _ _ _ _ _ _ _
             exact ok_gpure rfl (ro_eqlS rfl rfl) rfl
           refine ⟨?_, ?_⟩
           · rintro - w97 D97
             rintro _ rfl _ rfl
             show OpOK _ _ _ _ _ _ _
             exact ok_pure (ro_pickT (v := .bool _) rfl rfl) rfl
           exact trivial
          case hend =>
           intro w98 D98
           rintro _ rfl _ rfl _ rfl _ rfl _ rfl _ rfl _ rfl _ rfl _ rfl v90 rfl _ rfl _ rfl _ rfl _ rfl _ rfl _ rfl _ rfl v98 rfl _ rfl _ rfl
           show St _ _ _ _ _ _ _
           replace hoo := hoo.kept_from D98
           refine st_nil (nx_then ?_)
           refine cd_cond rfl (fun Q99 => ?_) (fun Q99 => ?_)
           · with_reducible replace Q99 := be_t Q99
             have heq : (SM.G Dz out a).1 = (SM.G Dz ds k).1 := by first | exact str_inj Q99 | exact str_eq.1 Q99
             refine cd_seq (cd_region ?_)
             refine ass rfl ?_
             refine asi rfl ?_
             refine st_nil (nx_then (cd_ret (rt_then (rt_block (rt_then (rt_then (rt_block (rt_block (rt_then (rt_then (rt_block (rt_then ?_))))))))))))
             refine res2 (v := .slice _ _ _) (v' := .int _ _) rfl rfl rfl ?_
             have he : mE Ls = 4 := mE_4 hall (dup_no hil hds (by omega) hpo (by omega) heq)
             rw [mD_no (by rw [he]; decide), he]
             exact ⟨⟨none, 0, rfl, World.ownsRow_nil _ _ _ _⟩, (hB.next D98)⟩
           with_reducible replace Q99 := be_f Q99
           have hne : (SM.G Dz out a).1 ≠ (SM.G Dz ds k).1 := fun e => by have := str_eq.2 e; simp_all
           refine cd_skip ?_
           refine nx_cut (()) trivial (by (iterate 20 refine agr_cons rfl ?_); exact agr_rfl) ?_
           exact ⟨fun h9 => by
             first
               | exact hne
               | exact absurd h9 (by omega), hoo, (hB.next D98)⟩
        apply cd_drawnD 20 [(81, eqp _), (82, eqp _), (83, eqp _), (84, eqp _), (85, eqp _), (86, eqp _), (87, eqp _), (88, eqp _), (89, eqp _), (90, eqp _), (91, eqp _), (92, eqp _), (93, eqp _), (94, eqp _), (95, eqp _), (96, eqp _), (97, eqp _), (98, eqp _), (99, eqp _), (100, eqp _)] (by repeat first | exact pq_body | refine pq_then ?_ | refine pq_block ?_) (by kernel_rfl) (by kernel_rfl) ⟨eqp_mono _, eqp_mono _, eqp_mono _, eqp_mono _, eqp_mono _, eqp_mono _, eqp_mono _, eqp_mono _, eqp_mono _, eqp_mono _, eqp_mono _, eqp_mono _, eqp_mono _, eqp_mono _, eqp_mono _, eqp_mono _, eqp_mono _, eqp_mono _, eqp_mono _, eqp_mono _, trivial⟩
        case hop =>
         refine ⟨?_, ?_⟩
         · rintro - w101 D101
           show OpOK _ _ _ _ _ _ _
           exact ok_pure (ro_move (v := .int _ _) rfl) rfl
         refine ⟨?_, ?_⟩
         · rintro - w102 D102
           show OpOK _ _ _ _ _ _ _
           exact ok_pure (ro_move (v := .slice _ _ _) rfl) rfl
         refine ⟨?_, ?_⟩
         · rintro - w103 D103
           rintro _ rfl
           show OpOK _ _ _ _ _ _ _
           exact ok_pure (ro_len TrRef_l27 rfl) rfl
         refine ⟨?_, ?_⟩
         · rintro - w104 D104
           rintro _ rfl _ rfl
           show OpOK _ _ _ _ _ _ _
           exact ok_pure (ro_bf (ro_lss rfl rfl) (decide_eq_false (by omega))) rfl
         refine ⟨?_, ?_⟩
         · rintro - w105 D105
           rintro _ rfl
           show OpOK _ _ _ _ _ _ _
           exact ok_pure (ro_move (v := .bool _) rfl) rfl
         refine ⟨?_, ?_⟩
         · rintro - w106 D106
           rintro _ rfl
           show OpOK _ _ _ _ _ _ _
           exact ok_gno rfl rfl rfl
         refine ⟨?_, ?_⟩
         · rintro - w107 D107
           rintro _ rfl
           show OpOK _ _ _ _ _ _ _
           exact ok_gno rfl rfl rfl
         refine ⟨?_, ?_⟩
         · rintro - w108 D108
           rintro _ rfl _ rfl _ rfl
           show OpOK _ _ _ _ _ _ _
           exact ok_gno rfl rfl rfl
         refine ⟨?_, ?_⟩
         · rintro - w109 D109
           rintro _ rfl _ rfl
           show OpOK _ _ _ _ _ _ _
           exact ok_gno rfl rfl rfl
         refine ⟨?_, ?_⟩
         · rintro - w110 D110
           rintro _ rfl _ rfl
           show OpOK _ _ _ _ _ _ _
           exact ok_gno rfl rfl rfl
         refine ⟨?_, ?_⟩
         · rintro - w111 D111
           rintro _ rfl
           show OpOK _ _ _ _ _ _ _
           exact ok_gno rfl rfl rfl
         refine ⟨?_, ?_⟩
         · rintro - w112 D112
           rintro _ rfl
           show OpOK _ _ _ _ _ _ _
           exact ok_gno rfl rfl rfl
         refine ⟨?_, ?_⟩
         · rintro - w113 D113
           rintro _ rfl _ rfl _ rfl
           show OpOK _ _ _ _ _ _ _
           exact ok_gno rfl rfl rfl
         refine ⟨?_, ?_⟩
         · rintro - w114 D114
           rintro _ rfl _ rfl
           show OpOK _ _ _ _ _ _ _
           exact ok_gno rfl rfl rfl
         refine ⟨?_, ?_⟩
         · rintro - w115 D115
           rintro _ rfl
           show OpOK _ _ _ _ _ _ _
           exact ok_gno rfl rfl rfl
         refine ⟨?_, ?_⟩
         · rintro - w116 D116
           rintro _ rfl _ rfl _ rfl
           show OpOK _ _ _ _ _ _ _
           exact ok_gno rfl rfl rfl
         refine ⟨?_, ?_⟩
         · rintro - w117 D117
           rintro _ rfl _ rfl
           show OpOK _ _ _ _ _ _ _
           exact ok_gno rfl rfl rfl
         refine ⟨?_, ?_⟩
         · rintro - w118 D118
           rintro _ rfl _ rfl
           show OpOK _ _ _ _ _ _ _
           exact ok_gno rfl rfl rfl
         refine ⟨?_, ?_⟩
         · rintro - w119 D119
           rintro _ rfl _ rfl _ rfl
           show OpOK _ _ _ _ _ _ _
           exact ok_gno rfl rfl rfl
         refine ⟨?_, ?_⟩
         · rintro - w120 D120
           rintro _ rfl _ rfl
           show OpOK _ _ _ _ _ _ _
           exact ok_pure (ro_pickF (v := .bool _) rfl rfl) rfl
         exact trivial
        case hend =>
         intro w121 D121
         rintro _ rfl _ rfl _ rfl _ rfl _ rfl _ rfl _ rfl _ rfl _ rfl _ rfl _ rfl _ rfl _ rfl _ rfl _ rfl _ rfl _ rfl _ rfl _ rfl _ rfl
         show St _ _ _ _ _ _ _
         replace hoo := hoo.kept_from D121
         refine st_nil (nx_then ?_)
         refine cd_condF rfl ?_
         refine cd_skip ?_
         refine nx_cut (()) trivial (by (iterate 20 refine agr_cons rfl ?_); exact agr_rfl) ?_
         exact ⟨fun h9 => by
           first
             | exact hne
             | exact absurd h9 (by omega), hoo, (hB.next D121)⟩
      rintro _ ρ122 w122 ⟨hne9, hoo, hB⟩
      refine cd_seq ?_
      apply cd_invP [(0, 101, fun _ v _ => v = _), (1, 102, fun _ v _ => v = _), (2, 103, fun _ v _ => v = _), (3, 104, fun S v w' => ∃ A' c', v = .slice A' a c' ∧ (S 12 = false → w'.ownsRow w122.heap.size 43 2 (.slice A' a c') a (List.flatMap dV (out.take a)))), (4, 105, fun _ v _ => v = _), (5, 106, fun _ v _ => v = _), (6, 107, fun _ v _ => v = _), (7, 108, fun _ v _ => v = _), (8, 109, fun _ v _ => v = _), (9, 110, fun _ v _ => v = _), (10, 111, fun _ v _ => v = _), (11, 112, fun S v w' => ∃ g, v = .slice (some ⟨g, 0, none⟩) 1 1 ∧ (S 12 = false → Blk w' g 43 (dV (SM.G Dz ds k)).toArray)), (12, 113, fun S v w' => ∃ A' c', v = .slice A' (a + 1) c' ∧ w'.ownsRow w122.heap.size 43 2 (.slice A' (a + 1) c') (a + 1) (List.flatMap dV ((out.take a) ++ [(SM.G Dz ds k)]))), (13, 10, fun S v w' => ∃ A' c', v = .slice A' (a + 1) c' ∧ w'.ownsRow w122.heap.size 43 2 (.slice A' (a + 1) c') (a + 1) (List.flatMap dV ((out.take a) ++ [(SM.G Dz ds k)])))] [12] (fun S w' => w122.heap.size ≤ w'.heap.size ∧ From w122 w') (by kernel_rfl) (by kernel_rfl) rfl rfl ⟨fun _ _ _ _ _ _ _ h => h, fun _ _ _ _ _ _ _ h => h, fun _ _ _ _ _ _ _ h => h, fun S i v w1 w2 hq hF ⟨g, c', h1, h2⟩ => ⟨g, c', h1, fun h0 => (h2 (setF h0)).kept_from hF⟩, fun _ _ _ _ _ _ _ h => h, fun _ _ _ _ _ _ _ h => h, fun _ _ _ _ _ _ _ h => h, fun _ _ _ _ _ _ _ h => h, fun _ _ _ _ _ _ _ h => h, fun _ _ _ _ _ _ _ h => h, fun _ _ _ _ _ _ _ h => h, fun S i v w1 w2 hq hF ⟨g, h1, h2⟩ => ⟨g, h1, fun h0 => (h2 (setF h0)).from_ hF⟩, fun S i v w1 w2 hq hF ⟨g, c', h1, h2⟩ => ⟨g, c', h1, h2.kept_from hF⟩, fun S i v w1 w2 hq hF ⟨g, c', h1, h2⟩ => ⟨g, c', h1, h2.kept_from hF⟩, trivial⟩ (fun S i w1 w2 hq hF h => ⟨Nat.le_trans h.1 hF.size, h.2.next hF⟩) (⟨Nat.le_refl _, From.rfl_.d1⟩)
      case hstep =>
       refine ⟨?_, ?_⟩
       · rintro S L' w123 hU hmo hme hI hM hC hS ⟨-⟩
         have hM' := hM
         obtain ⟨hz123, hM123⟩ := hM'
         have e6 := hI.1 6 (outP rfl)
         exact stepQ_ro [(6, _)] hU hmo hme hI hM (.head _) rfl rfl (by kernel_rfl) ⟨e6, trivial⟩ (ro_move (v := .slice _ _ _) rfl) From.rfl_ rfl
       refine ⟨?_, ?_⟩
       · rintro S L' w124 hU hmo hme hI hM hC hS ⟨-⟩
         have hM' := hM
         obtain ⟨hz124, hM124⟩ := hM'
         have e9 := hI.1 9 (outP rfl)
         exact stepQ_ro [(9, _)] hU hmo hme hI hM (.tail _ (.head _)) rfl rfl (by kernel_rfl) ⟨e9, trivial⟩ (ro_move (v := .int _ _) rfl) From.rfl_ rfl
       refine ⟨?_, ?_⟩
       · rintro S L' w125 hU hmo hme hI hM hC hS ⟨d0, d1, -⟩
         have hM' := hM
         obtain ⟨hz125, hM125⟩ := hM'
         obtain ⟨v125_101, e101, h101⟩ := hI.get (i := 0) (.head _) d0
         obtain rfl := h101
         obtain ⟨v125_102, e102, h102⟩ := hI.get (i := 1) (.tail _ (.head _)) d1
         obtain rfl := h102
         exact stepQ_ro [(101, _), (102, _)] hU hmo hme hI hM (.tail _ (.tail _ (.head _))) rfl rfl (by kernel_rfl) ⟨e101, e102, trivial⟩ (ro_eq (v' := .slice A6 a c6) (ro_sliceO (l := 0) (h := a) TrRef_e27 rfl (.inl ⟨rfl, rfl⟩) (.inr ⟨_, _, _, rfl, rfl, rfl⟩) (by omega) (by have := own_cap hoo; omega)) (by rw [restOf_head, Nat.sub_zero, Nat.sub_zero])) (From.rfl_) (rfl)
       refine ⟨?_, ?_⟩
       · rintro S L' w126 hU hmo hme hI hM hC hS ⟨d2, -⟩
         have hM' := hM
         obtain ⟨hz126, hM126⟩ := hM'
         obtain ⟨v126_103, e103, h103⟩ := hI.get (i := 2) (.tail _ (.tail _ (.head _))) d2
         obtain rfl := h103
         refine stepQ_call (al := [.tmp 103]) [(103, _)] hU hmo hme hI hM (.tail _ (.tail _ (.tail _ (.head _)))) rfl (by kernel_rfl) ⟨e103, trivial⟩ TrRef_k6 ((copyDocs_rt A6 c6 a (out.take a) _ (((RowK.own dV_len (by decide) hoo).2.take a).from_ hM126) (by rw [List.length_take]; omega) (by omega)).mono ?_)
         rintro v w2 ⟨⟨A', c', rfl, ho'⟩, E104⟩
         exact ⟨E104, A', c', rfl, fun _ => own_le ho' hM126.size⟩
       refine ⟨?_, ?_⟩
       · rintro S L' w127 hU hmo hme hI hM hC hS ⟨-⟩
         have hM' := hM
         obtain ⟨hz127, hM127⟩ := hM'
         have e0 := hI.1 0 (outP rfl)
         exact stepQ_ro [(0, _)] hU hmo hme hI hM (.tail _ (.tail _ (.tail _ (.tail _ (.head _))))) rfl rfl (by kernel_rfl) ⟨e0, trivial⟩ (ro_move (v := .slice _ _ _) rfl) From.rfl_ rfl
       refine ⟨?_, ?_⟩
       · rintro S L' w128 hU hmo hme hI hM hC hS ⟨-⟩
         have hM' := hM
         obtain ⟨hz128, hM128⟩ := hM'
         have e7 := hI.1 7 (outP rfl)
         exact stepQ_ro [(7, _)] hU hmo hme hI hM (.tail _ (.tail _ (.tail _ (.tail _ (.tail _ (.head _)))))) rfl rfl (by kernel_rfl) ⟨e7, trivial⟩ (ro_move (v := .int _ _) rfl) From.rfl_ rfl
       refine ⟨?_, ?_⟩
       · rintro S L' w129 hU hmo hme hI hM hC hS ⟨d4, d5, -⟩
         have hM' := hM
         obtain ⟨hz129, hM129⟩ := hM'
         obtain ⟨v129_105, e105, h105⟩ := hI.get (i := 4) (.tail _ (.tail _ (.tail _ (.tail _ (.head _))))) d4
         obtain rfl := h105
         obtain ⟨v129_106, e106, h106⟩ := hI.get (i := 5) (.tail _ (.tail _ (.tail _ (.tail _ (.tail _ (.head _)))))) d5
         obtain rfl := h106
         exact stepQ_ro [(105, _), (106, _)] hU hmo hme hI hM (.tail _ (.tail _ (.tail _ (.tail _ (.tail _ (.tail _ (.head _))))))) rfl rfl (by kernel_rfl) ⟨e105, e106, trivial⟩ (ro_indexAddr1 TrRef_e22 rfl rfl (by omega)) From.rfl_ rfl
       refine ⟨?_, ?_⟩
       · rintro S L' w130 hU hmo hme hI hM hC hS ⟨d6, -⟩
         have hM' := hM
         obtain ⟨hz130, hM130⟩ := hM'
         obtain ⟨v130_107, e107, h107⟩ := hI.get (i := 6) (.tail _ (.tail _ (.tail _ (.tail _ (.tail _ (.tail _ (.head _))))))) d6
         obtain rfl := h107
         exact stepQ_ro [(107, _)] hU hmo hme hI hM (.tail _ (.tail _ (.tail _ (.tail _ (.tail _ (.tail _ (.tail _ (.head _)))))))) rfl rfl (by kernel_rfl) ⟨e107, trivial⟩ (ro_load TrRef_g27 rfl (by exact cellF (hB.next hM130) hci)) From.rfl_ rfl
       refine ⟨?_, ?_⟩
       · rintro S L' w131 hU hmo hme hI hM hC hS ⟨-⟩
         have hM' := hM
         obtain ⟨hz131, hM131⟩ := hM'
         have e8 := hI.1 8 (outP rfl)
         exact stepQ_ro [(8, _)] hU hmo hme hI hM (.tail _ (.tail _ (.tail _ (.tail _ (.tail _ (.tail _ (.tail _ (.tail _ (.head _))))))))) rfl rfl (by kernel_rfl) ⟨e8, trivial⟩ (ro_move (v := .int _ _) rfl) From.rfl_ rfl
       refine ⟨?_, ?_⟩
       · rintro S L' w132 hU hmo hme hI hM hC hS ⟨d7, d8, -⟩
         have hM' := hM
         obtain ⟨hz132, hM132⟩ := hM'
         obtain ⟨v132_108, e108, h108⟩ := hI.get (i := 7) (.tail _ (.tail _ (.tail _ (.tail _ (.tail _ (.tail _ (.tail _ (.head _)))))))) d7
         obtain rfl := h108
         obtain ⟨v132_109, e109, h109⟩ := hI.get (i := 8) (.tail _ (.tail _ (.tail _ (.tail _ (.tail _ (.tail _ (.tail _ (.tail _ (.head _))))))))) d8
         obtain rfl := h109
         exact stepQ_ro [(108, _), (109, _)] hU hmo hme hI hM (.tail _ (.tail _ (.tail _ (.tail _ (.tail _ (.tail _ (.tail _ (.tail _ (.tail _ (.head _)))))))))) rfl rfl (by kernel_rfl) ⟨e108, e109, trivial⟩ (ro_indexAddrN TrRef_e27 rfl rfl (by omega)) From.rfl_ rfl
       refine ⟨?_, ?_⟩
       · rintro S L' w133 hU hmo hme hI hM hC hS ⟨d9, -⟩
         have hM' := hM
         obtain ⟨hz133, hM133⟩ := hM'
         obtain ⟨v133_110, e110, h110⟩ := hI.get (i := 9) (.tail _ (.tail _ (.tail _ (.tail _ (.tail _ (.tail _ (.tail _ (.tail _ (.tail _ (.head _)))))))))) d9
         obtain rfl := h110
         exact stepQ_ro [(110, _)] hU hmo hme hI hM (.tail _ (.tail _ (.tail _ (.tail _ (.tail _ (.tail _ (.tail _ (.tail _ (.tail _ (.tail _ (.head _))))))))))) rfl rfl (by kernel_rfl) ⟨e110, trivial⟩ (ro_loadA (cs := [_, _]) TrRef_g43 TrRef_z43 rfl (by exact rangeF (hB.next hM133) (hcG k (by omega)))) From.rfl_ rfl
       refine ⟨?_, ?_⟩
       · rintro S L' w134 hU hmo hme hI hM hC hS ⟨d10, -⟩
         have hM' := hM
         obtain ⟨hz134, hM134⟩ := hM'
         obtain ⟨v134_111, e111, h111⟩ := hI.get (i := 10) (.tail _ (.tail _ (.tail _ (.tail _ (.tail _ (.tail _ (.tail _ (.tail _ (.tail _ (.tail _ (.head _))))))))))) d10
         obtain rfl := h111
         exact stepQ_ro [(111, _)] hU hmo hme hI hM (.tail _ (.tail _ (.tail _ (.tail _ (.tail _ (.tail _ (.tail _ (.tail _ (.tail _ (.tail _ (.tail _ (.head _)))))))))))) rfl rfl (by kernel_rfl) ⟨e111, trivial⟩ (ro_litK2 TrRef_q27 rfl rfl rfl) (From.rfl_.new _) (⟨_, rfl, fun _ => Blk.new _ _ _⟩)
       refine ⟨?_, ?_⟩
       · rintro S L' w135 hU hmo hme hI hM hC hS ⟨d3, d11, d3, -⟩
         have hM' := hM
         obtain ⟨hz135, hM135⟩ := hM'
         obtain ⟨v135_104, e104, h104⟩ := hI.get (i := 3) (.tail _ (.tail _ (.tail _ (.head _)))) d3
         obtain ⟨A104, c104, rfl, ho104⟩ := h104
         obtain ⟨v135_112, e112, h112⟩ := hI.get (i := 11) (.tail _ (.tail _ (.tail _ (.tail _ (.tail _ (.tail _ (.tail _ (.tail _ (.tail _ (.tail _ (.tail _ (.head _)))))))))))) d11
         obtain ⟨g112, rfl, hk112⟩ := h112
         have h7 := ho104 hS
         obtain ⟨A', c', w2, hR, ho, hg⟩ := ro_appendB (P := Try.prog) (ρ := ev 120 [(104, _), (112, _)]) (s := .tmp 104) (x := .tmp 112) (j := 1) (news := dV (SM.G Dz ds k)) TrRef_q27 rfl (by decide) rfl h7 hM135.size rfl rfl ⟨g112, 0, rfl, (hk112 hS).whole⟩ (by simp [dV, Value.oneCell']) (by omega) (by omega)
         exact stepM_ro [(104, _), (112, _)] hU hI (.tail _ (.tail _ (.tail _ (.tail _ (.tail _ (.tail _ (.tail _ (.tail _ (.tail _ (.tail _ (.tail _ (.tail _ (.head _))))))))))))) rfl (by kernel_rfl) ⟨e104, e112, trivial⟩ hR ⟨Nat.le_trans hz135 hg.size, hM135.grew hg (fun q hq => (own_at h7 q hq).1)⟩ ⟨A', c', rfl, by rw [List.flatMap_append]; simpa using ho⟩ ⟨fun _ _ _ h => h, fun _ _ _ h => h, fun _ _ _ h => h, fun _ _ _ ⟨g, c2, h1, h2⟩ => ⟨g, c2, h1, fun h0 => (by rw [setS] at h0; cases h0)⟩, fun _ _ _ h => h, fun _ _ _ h => h, fun _ _ _ h => h, fun _ _ _ h => h, fun _ _ _ h => h, fun _ _ _ h => h, fun _ _ _ h => h, fun _ _ _ ⟨g, h1, h2⟩ => ⟨g, h1, fun h0 => (by rw [setS] at h0; cases h0)⟩, (fun h => by cases h), (fun _ h0 => by rw [closed_old hC (j := 13) rfl (by kernel_rfl) hS] at h0; cases h0), trivial⟩
       refine ⟨?_, ?_⟩
       · rintro S L' w136 hU hmo hme hI hM hC hS ⟨d12, d12, d0, d1, d2, d3, d4, d5, d6, d7, d8, d9, d10, d11, d12, -⟩
         have hM' := hM
         obtain ⟨hz136, hM136⟩ := hM'
         obtain ⟨v136_113, e113, h113⟩ := hI.get (i := 12) (.tail _ (.tail _ (.tail _ (.tail _ (.tail _ (.tail _ (.tail _ (.tail _ (.tail _ (.tail _ (.tail _ (.tail _ (.head _))))))))))))) d12
         obtain ⟨A113, c113, rfl, ho113⟩ := h113
         exact stepQ_ro [(113, _)] hU hmo hme hI hM (.tail _ (.tail _ (.tail _ (.tail _ (.tail _ (.tail _ (.tail _ (.tail _ (.tail _ (.tail _ (.tail _ (.tail _ (.tail _ (.head _)))))))))))))) rfl rfl (by kernel_rfl) ⟨e113, trivial⟩ (ro_assign rfl) (From.rfl_) (⟨A113, c113, rfl, ho113⟩)
       exact trivial
      case hend =>
       intro w137 hM
       obtain ⟨hz137, hM137⟩ := hM
       rintro v137_101 rfl v137_102 rfl v137_103 rfl v137_104 ⟨A104, c104, rfl, ho104⟩ v137_105 rfl v137_106 rfl v137_107 rfl v137_108 rfl v137_109 rfl v137_110 rfl v137_111 rfl v137_112 ⟨g112, rfl, hk112⟩ v137_113 ⟨A113, c113, rfl, ho113⟩ v137_10 ⟨A10, c10, rfl, ho10⟩
       refine allP_nil ?_
       have hz21 := hB.size
       have hz22 := hM137.size
       replace hoo := hoo.kept_from hM137
       refine nx_then (cd_region ?_)
       refine mvs rfl ?_
       refine mvs rfl ?_
       refine mvi rfl ?_
       refine st_val (ro_sliceO (l := a) (h := out.length) TrRef_e27 rfl (.inr ⟨_, _, _, rfl, rfl, rfl⟩) (.inl ⟨rfl, rfl⟩) (by omega) (by have := own_cap hoo; omega)) ?_
       refine st_appendB TrRef_q27 rfl (by decide) rfl (A := A10) (xs := List.flatMap dV (out.take a ++ [SM.G Dz ds k])) (news := List.flatMap dV (out.drop a)) ho10 hz22 rfl (by rw [flat_len dV_len, List.length_drop]) (own_tail hoo ha).1 (own_tail hoo ha).2 (dV_one _) (by omega) (by omega) ?_
       intro A118 c118 w138 ho118 hg118
       have HF118 := ((hB.next hM137)).grew hg118 (fun k hk => Nat.le_trans hz21 (own_at ho10 k hk).1)
       refine ass rfl ?_
       refine st_nil (nx_block (nx_then (cd_region ?_)))
       refine mvi rfl ?_
       refine st_val (ro_addN (b := 1) rfl rfl (by omega)) ?_
       refine asi rfl ?_
       refine st_nil ?_
       refine nx_cut ((k + 1, (A118, c118), out.take a ++ SM.G Dz ds k :: out.drop a)) ⟨rfl, (by rw [ins_len ha]; rfl), trivial⟩ (by (iterate 151 refine agr_cons rfl ?_); exact agr_rfl) ⟨?_, ?_⟩
       · exact ⟨by omega, by rw [ins_len ha, ← ins_flat]; exact own_le ho118 hz21, hso.ins ha hlo (fun h9 => ⟨hhi h9, hne9 h9⟩), ins_step (by omega) hpo, HF118⟩
       · show ds.length - (k + 1) < ds.length - k; omega
    with_reducible replace Q29 := of_decide_eq_false Q29
    refine cd_exit ?_
    refine ex_then (ex_then (ex_block (nx_block (nx_then (cd_region ?_)))))
    refine mvi rfl ?_
    refine st_val (ro_add64 rfl rfl (by omega)) ?_
    refine asi rfl ?_
    refine st_nil ?_
    refine nx_cut ((i + 1, (A6, c6), out)) ⟨(by first | rfl | (refine int_eq ?_; omega)), (by first | rfl | (refine int_eq ?_; omega)), trivial⟩ (by (iterate 172 refine agr_cons rfl ?_); exact agr_rfl) ⟨?_, ?_⟩
    · exact ⟨by omega, hoo, hso, by
        rw [fl_succ hil, hds]
        rwa [List.take_of_length_le (l := ds) (by omega)] at hpo, hB⟩
    · show n - (i + 1) < n - i; omega
  with_reducible replace Q27 := of_decide_eq_false Q27
  refine cd_exit ?_
  refine ex_then (ex_then (ex_block (nx_then (cd_seq (cd_region ?_)))))
  refine mvs rfl ?_
  refine ass rfl ?_
  refine asi rfl ?_
  refine st_nil (nx_then (cd_ret ?_))
  refine res2 (v := .slice _ _ _) (v' := .int _ _) rfl rfl rfl ?_
  have hi9 : i = Ls.length := by omega
  rw [hi9, List.take_length] at hpo
  obtain ⟨e1, e2⟩ := mD_ok hall hso hpo
  rw [e1, e2]
  exact ⟨⟨A6, c6, rfl, hoo⟩, hB⟩
end Go.Proofs.Ytllpcjdljgmilaa

namespace Go.Proofs.Ytllpcjdljgmilaa
open Go.RowKit
open Go.ChangeShapes Go.WideShapes Go.ChangeAt
theorem TrLawM_g25 : aggQ Try.prog 25 = some true := by kernel_rfl
theorem TrLawM_z25 : sizeQ Try.prog 25 = some 2 := by kernel_rfl
theorem TrLawM_k5 : callable Try.prog 5 = true := by kernel_rfl
theorem TrLawM_f25_0 : fieldQ Try.prog 25 0 = some 0 := by kernel_rfl
theorem TrLawM_g22 : aggQ Try.prog 22 = some false := by kernel_rfl
theorem TrLawM_l22 : (elemQ Try.prog 22).isSome = true := by kernel_rfl
theorem TrLawM_e22 : elemQ Try.prog 22 = some (27, 1) := by kernel_rfl
theorem TrLawM_g27 : aggQ Try.prog 27 = some false := by kernel_rfl
theorem TrLawM_k6 : callable Try.prog 6 = true := by kernel_rfl
theorem TrLawM_q22 : litQ Try.prog 22 = some (27, 1, 24, (.slice none 0 0)) := by kernel_rfl
theorem TrLawM_k7 : callable Try.prog 7 = true := by kernel_rfl
theorem TrLawM_k8 : callable Try.prog 8 = true := by kernel_rfl
theorem TrLawM_k9 : callable Try.prog 9 = true := by kernel_rfl
theorem TrLawM_k10 : callable Try.prog 10 = true := by kernel_rfl
theorem TrLawM_k11 : callable Try.prog 11 = true := by kernel_rfl
theorem TrLawM_k12 : callable Try.prog 12 = true := by kernel_rfl
theorem own_none {w : World} {base e s n c : Nat} {xs : List Value} (h : w.ownsRow base e s (.slice none n c) n xs) : c = 0 := by
  rcases h.2 with ⟨h1, _⟩ | ⟨g, cap, cur, hv, _⟩
  · simp only [Value.slice.injEq] at h1; omega
  · simp only [Value.slice.injEq] at hv; cases hv.1
/-- copies of the first i lists lie there -/
def Cps (w : World) (Ls : List (List Dc)) (vs : List Value) : Prop := ∀ j, j < vs.length → ∃ Aj cj, vs[j]? = some (.slice Aj (Ls.getD j []).length cj) ∧ RowK 2 dV w Aj (Ls.getD j []) ∧ (Aj = none → cj = 0)
theorem Cps.snoc {w : World} {Ls : List (List Dc)} {vs : List Value} {i : Nat} {Ai : Option Addr} {ci : Nat} (h : Cps w Ls vs) (hi : vs.length = i) (hil : i < Ls.length) (hr : RowK 2 dV w Ai Ls[i]) (hn : Ai = none → ci = 0) : Cps w Ls (vs ++ [.slice Ai Ls[i].length ci]) := fun j hj => by
  rw [List.length_append, List.length_singleton] at hj
  rcases Nat.lt_or_ge j vs.length with e | e
  · obtain ⟨Aj, cj, h1, h2, h3⟩ := h j e
    exact ⟨Aj, cj, by rw [List.getElem?_append_left e]; exact h1, h2, h3⟩
  · obtain rfl : j = i := by omega
    have e2 : Ls.getD j [] = Ls[j] := by rw [List.getD_eq_getElem?_getD, List.getElem?_eq_getElem hil]; rfl
    rw [e2]
    exact ⟨Ai, ci, by rw [List.getElem?_append_right e, hi, Nat.sub_self]; rfl, hr, hn⟩
theorem own_apart {w : World} {b1 b2 e1 e2 s1 s2 n1 n2 c1 c2 : Nat} {A1 A2 : Option Addr} {xs1 xs2 : List Value} (h1 : w.ownsRow b1 e1 s1 (.slice A1 n1 c1) n1 xs1) (h2 : w.ownsRow b2 e2 s2 (.slice A2 n2 c2) n2 xs2) (hne : e1 ≠ e2) : Apart A1 A2 := fun p hp q hq e => by
  rcases h1.2 with ⟨k1, _⟩ | ⟨g1, cap1, cur1, k1, _, k2, _⟩
  · simp only [Value.slice.injEq] at k1; rw [k1.1] at hp; cases hp
  · rcases h2.2 with ⟨j1, _⟩ | ⟨g2, cap2, cur2, j1, _, j2, _⟩
    · simp only [Value.slice.injEq] at j1; rw [j1.1] at hq; cases hq
    · simp only [Value.slice.injEq] at k1 j1
      rw [k1.1] at hp
      rw [j1.1] at hq
      cases hp
      cases hq
      have e : g1 = g2 := e
      rw [e, j2] at k2
      simp only [Option.some.injEq, Obj.cells.injEq] at k2
      exact hne k2.2.1.symm
/-- copies of the first lists, in rows of their own -/
def CpsO (base : Nat) (w : World) (Ls : List (List Dc)) (vs : List Value) : Prop := ∀ j, j < vs.length → ∃ Aj cj, vs[j]? = some (.slice Aj (Ls.getD j []).length cj) ∧ w.ownsRow base 43 2 (.slice Aj (Ls.getD j []).length cj) (Ls.getD j []).length ((Ls.getD j []).flatMap dV)
theorem CpsO.from_ {base : Nat} {w w' : World} {Ls : List (List Dc)} {vs : List Value} (h : CpsO base w Ls vs) (hF : From w w') : CpsO base w' Ls vs := fun j hj => by
  obtain ⟨Aj, cj, h1, h2⟩ := h j hj
  exact ⟨Aj, cj, h1, h2.kept_from hF⟩
theorem CpsO.aside {base b2 e2 s2 n2 c2 : Nat} {A2 : Option Addr} {xs2 : List Value} {w w' : World} {Ls : List (List Dc)} {vs : List Value} (h : CpsO base w Ls vs) (hg : w.grownBy w' (A2.map (·.block))) (ho : w.ownsRow b2 e2 s2 (.slice A2 n2 c2) n2 xs2) (hne : e2 ≠ 43) : CpsO base w' Ls vs := fun j hj => by
  obtain ⟨Aj, cj, h1, h2⟩ := h j hj
  exact ⟨Aj, cj, h1, own_aside h2 hg (own_apart ho h2 hne)⟩
theorem CpsO.snoc {base : Nat} {w : World} {Ls : List (List Dc)} {vs : List Value} {i : Nat} {Ai : Option Addr} {ci : Nat} (h : CpsO base w Ls vs) (hi : vs.length = i) (hil : i < Ls.length) (hr : w.ownsRow base 43 2 (.slice Ai Ls[i].length ci) Ls[i].length (Ls[i].flatMap dV)) : CpsO base w Ls (vs ++ [.slice Ai Ls[i].length ci]) := fun j hj => by
  rw [List.length_append, List.length_singleton] at hj
  rcases Nat.lt_or_ge j vs.length with e | e
  · obtain ⟨Aj, cj, h1, h2⟩ := h j e
    exact ⟨Aj, cj, by rw [List.getElem?_append_left e]; exact h1, h2⟩
  · obtain rfl : j = i := by omega
    have e2 : Ls.getD j [] = Ls[j] := by rw [List.getD_eq_getElem?_getD, List.getElem?_eq_getElem hil]; rfl
    rw [e2]
    exact ⟨Ai, ci, by rw [List.getElem?_append_right e, hi, Nat.sub_self]; rfl, hr⟩
theorem CpsO.cps {base : Nat} {w : World} {Ls : List (List Dc)} {vs : List Value} (h : CpsO base w Ls vs) : Cps w Ls vs := fun j hj => by
  obtain ⟨Aj, cj, h1, h2⟩ := h j hj
  exact ⟨Aj, cj, h1, (RowK.own dV_len (by decide) h2).2, fun e => by subst e; exact own_none h2⟩
theorem Cps.row {w : World} {base e c n : Nat} {A : Option Addr} {Ls : List (List Dc)} {vs : List Value} (h : Cps w Ls vs) (ho : w.ownsRow base e 1 (.slice A n c) n vs) (hn : n = Ls.length) : RowLL w A Ls := fun h0 => by
  have hl : vs.length = n := by have := ho.1; omega
  obtain ⟨g, rfl⟩ := own_some ho (by omega)
  refine ⟨g, 0, rfl, fun i hi => ?_⟩
  obtain ⟨Aj, cj, h1, h2, h3⟩ := h i (by omega)
  have e2 : Ls.getD i [] = Ls[i] := by rw [List.getD_eq_getElem?_getD, List.getElem?_eq_getElem hi]; rfl
  rw [e2] at h1 h2
  refine ⟨Aj, cj, ?_, h2, h3⟩
  rw [Nat.zero_add, ho.cellAt i (by omega)]
  exact h1
set_option maxHeartbeats 4000000 in
theorem merges_law (A B : Option Addr) (ca cb : Nat) (Ls : List (List Dc)) (is : List Int) (w : World) (ha : AskT w A B Ls is) :
    Rt Try.prog 3 [.agg #[.slice A Ls.length ca, .slice B is.length cb]] w (fun v w' => v = .bool true ∧ From w w') := by
  have hlen := ha.len
  refine enter (n := 70) Try.func3 rfl rfl rfl ?_
  refine cd_seq (cd_region ?_)
  refine st_box (v := .agg _) rfl ?_
  intro b1 w1 E1 hb1 hk1
  refine asb rfl ?_
  refine st_nil (nx_then (cd_seq (cd_seq (cd_region ?_))))
  refine st_val (ro_loadA (cs := [_, _]) TrLawM_g25 TrLawM_z25 rfl (by first | (first | exact (hP1.from_ From.rfl_).whole | exact (hP1.from_ From.rfl_).rd 0 rfl | exact (hP1.from_ From.rfl_).rd 1 rfl) | (first | exact (hk1.from_ From.rfl_).whole | exact (hk1.from_ From.rfl_).rd 0 rfl | exact (hk1.from_ From.rfl_).rd 1 rfl))) ?_
  refine st_call TrLawM_k5 (heavy_rt A B ca cb Ls is _ (ha.from_ (From.rfl_.next E1))) ?_
  rintro v11 w2 ⟨⟨hv, rfl, hli⟩, E11⟩
  replace hk1 := hk1.from_ (From.rfl_.next E11)
  refine st_nil (nx_then ?_)
  refine cd_cond rfl (fun Q3 => ?_) (fun Q3 => ?_)
  · refine cd_seq (cd_region ?_)
    refine asb rfl ?_
    refine st_nil (nx_then (cd_ret (rt_then ?_)))
    refine res1 (v := .bool _) rfl rfl ?_
    exact ⟨rfl, ((From.rfl_.next E1).next E11)⟩
  obtain ⟨hl1, hl2, hl3⟩ := hli (by simpa using Q3)
  refine cd_skip (nx_then (cd_seq (cd_region ?_)))
  refine ass rfl ?_
  refine st_nil (nx_then (cd_seq (cd_seq (cd_region ?_))))
  refine asi rfl ?_
  refine st_nil (nx_then (cd_block ?_))
  refine cd_loop (G := Nat × (Option Addr × Nat) × List Value) [12, 13, 14, 15, 16, 17, 18, 19, 20, 21, 22, 23, 24, 25, 26, 27] (fun (i, (A3, c3), _) => [(4, .int .i64 (i : Nat)), (3, .slice A3 i c3)]) (fun (i, (A3, c3), vs) w' => i ≤ Ls.length ∧ vs.length = i ∧ w'.ownsRow w.heap.size 27 1 (.slice A3 i c3) i vs ∧ CpsO w.heap.size w' Ls vs ∧ Blk w' b1 25 #[.slice A Ls.length ca, .slice B is.length cb] ∧ From w w') (fun (i, _, _) => Ls.length - i) ((0, (none, 0), [])) ⟨rfl, rfl, trivial⟩ ?_ ?_
  · exact ⟨Nat.zero_le _, rfl, World.ownsRow_nil _ _ _ _, fun j h => absurd h (by simp), hk1.from_ From.rfl_, ((From.rfl_.next E1).next E11)⟩
  rintro ⟨i, ⟨A3, c3⟩, vs⟩ ρ4 w4 ⟨hi, hvl, ho3, hcp, hP1, hB⟩
  refine cd_seq (cd_seq (cd_region ?_))
  refine mvi rfl ?_
  refine st_val (ro_fieldAddr TrLawM_f25_0 rfl) ?_
  refine st_val (ro_load TrLawM_g22 rfl (by first | (first | exact (hP1.from_ From.rfl_).whole | exact (hP1.from_ From.rfl_).rd 0 rfl | exact (hP1.from_ From.rfl_).rd 1 rfl) | (first | exact (hk1.from_ From.rfl_).whole | exact (hk1.from_ From.rfl_).rd 0 rfl | exact (hk1.from_ From.rfl_).rd 1 rfl))) ?_
  refine st_val (ro_len TrLawM_l22 rfl) ?_
  refine st_val (ro_lss rfl rfl) ?_
  refine st_nil (nx_then ?_)
  refine cd_cond rfl (fun Q5 => ?_) (fun Q5 => ?_)
  · with_reducible replace Q5 := of_decide_eq_true Q5
    obtain ⟨bL, oL, rfl, hcs⟩ := ha.row (by omega)
    have hil : i < Ls.length := by omega
    obtain ⟨Ai, ci, hci, hri, hni⟩ := hcs i hil
    have hfl := fl_len hil
    have hfm := fl_le (Ls := Ls) (i + 1)
    refine cd_skip (nx_then (cd_seq (cd_block (cd_region ?_))))
    refine mvs rfl ?_
    refine st_val (ro_fieldAddr TrLawM_f25_0 rfl) ?_
    refine st_val (ro_load TrLawM_g22 rfl (by first | (first | exact (hP1.from_ From.rfl_).whole | exact (hP1.from_ From.rfl_).rd 0 rfl | exact (hP1.from_ From.rfl_).rd 1 rfl) | (first | exact (hk1.from_ From.rfl_).whole | exact (hk1.from_ From.rfl_).rd 0 rfl | exact (hk1.from_ From.rfl_).rd 1 rfl))) ?_
    refine mvi rfl ?_
    refine st_val (ro_indexAddr1 TrLawM_e22 rfl rfl (by omega)) ?_
    refine st_val (ro_load TrLawM_g27 rfl (by exact cellF hB hci)) ?_
    have hz25 := (hB).size
    refine st_call TrLawM_k6 (copyDocs_rt Ai ci Ls[i].length Ls[i] _ (hri.from_ hB) rfl (by omega)) ?_
    rintro v25 w6 ⟨⟨A25, c25, rfl, ho25⟩, E25⟩
    refine st_lit1 (v := .slice _ _ _) TrLawM_q22 rfl rfl rfl ?_
    intro b26 w7 E26 hb26 hk26
    refine st_push1 (a0 := w) TrLawM_q22 rfl rfl (ho3.kept_from ((From.rfl_.next E25).next E26)) ((hB.next E25).next E26) rfl hk26 rfl (by omega) (by omega) ?_
    intro A27 c27 w8 ho27 B27 hg27
    have hcp2 := ((hcp.from_ ((From.rfl_.next E25).next E26)).snoc hvl hil (own_le (ho25.kept_from E26) hz25)).aside hg27 (ho3.kept_from ((From.rfl_.next E25).next E26)) (by decide)
    have hP2 := (hP1.from_ ((From.rfl_.next E25).next E26)).grown hg27 (own_off (ho3.kept_from ((From.rfl_.next E25).next E26)) (hP1.from_ ((From.rfl_.next E25).next E26)) (by decide))
    refine ass rfl ?_
    refine st_nil (nx_block (nx_then (cd_region ?_)))
    refine mvi rfl ?_
    refine st_val (ro_addN (b := 1) rfl rfl (by omega)) ?_
    refine asi rfl ?_
    refine st_nil ?_
    refine nx_cut ((i + 1, (A27, c27), vs ++ [.slice A25 Ls[i].length c25])) ⟨(by first | rfl | (refine int_eq ?_; omega)), (by first | rfl | (refine int_eq ?_; omega)), trivial⟩ (by (iterate 36 refine agr_cons rfl ?_); exact agr_rfl) ⟨?_, ?_⟩
    · exact ⟨by omega, by rw [List.length_append, hvl]; rfl, ho27, hcp2, hP2, B27⟩
    · show Ls.length - (i + 1) < Ls.length - i; omega
  with_reducible replace Q5 := of_decide_eq_false Q5
  have hi9 : i = Ls.length := by omega
  have hLL := hcp.cps.row ho3 hi9
  refine cd_exit ?_
  refine ex_then (ex_then (ex_block (nx_then (cd_seq (cd_region ?_)))))
  refine mvs rfl ?_
  have hz30 := (hB).size
  refine st_call TrLawM_k7 (merge_rt A3 c3 i Ls _ (hLL.from_ From.rfl_) hi9 (by omega) (by omega)) ?_
  rintro v30 w9 ⟨⟨A30, c30, rfl, ho30⟩, E30⟩
  refine mvt rfl ?_
  refine st_val (ro_extract rfl rfl) ?_
  refine st_val (ro_extract rfl rfl) ?_
  refine ass rfl ?_
  refine asi rfl ?_
  refine st_nil (nx_then (cd_seq (cd_region ?_)))
  refine st_val (ro_fieldAddr TrLawM_f25_0 rfl) ?_
  refine st_val (ro_load TrLawM_g22 rfl (by first | (first | exact (hP1.from_ (From.rfl_.next E30)).whole | exact (hP1.from_ (From.rfl_.next E30)).rd 0 rfl | exact (hP1.from_ (From.rfl_.next E30)).rd 1 rfl) | (first | exact (hk1.from_ (From.rfl_.next E30)).whole | exact (hk1.from_ (From.rfl_.next E30)).rd 0 rfl | exact (hk1.from_ (From.rfl_.next E30)).rd 1 rfl))) ?_
  refine st_call TrLawM_k8 (refMerge_rt A ca Ls.length Ls _ (ha.row.from_ (hB.next E30)) rfl (by omega) (by omega)) ?_
  rintro v36 w10 ⟨⟨A36, c36, rfl, ho36⟩, E36⟩
  have hdl : (mD Ls).length ≤ 5000 := mD_len hl3
  refine mvt rfl ?_
  refine st_val (ro_extract rfl rfl) ?_
  refine st_val (ro_extract rfl rfl) ?_
  refine ass rfl ?_
  refine asi rfl ?_
  refine st_nil (nx_then (cd_seq (cd_seq (cd_region ?_))))
  refine mvi rfl ?_
  refine st_call TrLawM_k9 (num_any _ _) ?_
  rintro v40 w11 ⟨rfl, rfl⟩
  refine mvi rfl ?_
  refine st_val (ro_bf (ro_neq rfl rfl) (bne_self_eq_false _)) ?_
  refine mvb rfl ?_
  refine st_unguard rfl ?_
  refine mvs rfl ?_
  refine st_unguard rfl ?_
  refine mvs rfl ?_
  refine st_unguard rfl ?_
  refine st_call TrLawM_k10 (eqDocs_same A30 A36 c30 c36 (mD Ls).length (mD Ls).length (mD Ls) _ ((RowK.own dV_len (by decide) ho30).2.from_ E36) (RowK.own dV_len (by decide) ho36).2 rfl rfl (by omega)) ?_
  rintro v46 w12 ⟨rfl, E46⟩
  refine st_unguard rfl ?_
  refine st_val (ro_bf (ro_not rfl) rfl) ?_
  refine st_val (ro_pickF (v := .bool _) rfl rfl) ?_
  refine st_nil (nx_then ?_)
  refine cd_condF rfl ?_
  refine cd_skip (nx_then (cd_seq (cd_region ?_)))
  refine mvs rfl ?_
  have hM50 := (((From.rfl_.next E30).next E36).next E46)
  refine st_call TrLawM_k11 (spoilDocs_rt _ A30 c30 (mD Ls).length (mD Ls) _ (ho30.kept_from (E36.next E46)) (by omega) (by have := E30.size; have := E36.size; have := E46.size; omega)) ?_
  rintro v50 w13 hg50
  have E50 := hM50.grew hg50 (fun k hk => (own_at ho30 k hk).1)
  replace hLL := hLL.from_ E50
  replace hP1 := hP1.from_ E50
  refine st_nil (nx_then (cd_seq (cd_seq (cd_region ?_))))
  refine asi rfl ?_
  refine st_nil (nx_then (cd_block ?_))
  refine cd_loop (G := Nat) [2, 51, 52, 53, 54, 55, 56, 57, 58, 59, 60, 61, 62, 63, 64, 65, 66, 67, 68] (fun i => [(9, .int .i64 (i : Nat))]) (fun i w' => i ≤ Ls.length ∧ RowLL w' A3 Ls ∧ Blk w' b1 25 #[.slice A Ls.length ca, .slice B is.length cb] ∧ From w w') (fun i => Ls.length - i) (0) ⟨rfl, trivial⟩ ?_ ?_
  · exact ⟨Nat.zero_le _, hLL.from_ From.rfl_, hP1.from_ From.rfl_, (((((hB.next E30).next E36).next E46)).grew hg50 (fun k hk => Nat.le_trans hz30 (own_at ho30 k hk).1))⟩
  rintro i ρ14 w14 ⟨hi, hLL, hP1, hB⟩
  refine cd_seq (cd_seq (cd_region ?_))
  refine mvi rfl ?_
  refine st_val (ro_fieldAddr TrLawM_f25_0 rfl) ?_
  refine st_val (ro_load TrLawM_g22 rfl (by first | (first | exact (hP1.from_ From.rfl_).whole | exact (hP1.from_ From.rfl_).rd 0 rfl | exact (hP1.from_ From.rfl_).rd 1 rfl) | (first | exact (hk1.from_ From.rfl_).whole | exact (hk1.from_ From.rfl_).rd 0 rfl | exact (hk1.from_ From.rfl_).rd 1 rfl))) ?_
  refine st_val (ro_len TrLawM_l22 rfl) ?_
  refine st_val (ro_lss rfl rfl) ?_
  refine st_nil (nx_then ?_)
  refine cd_cond rfl (fun Q15 => ?_) (fun Q15 => ?_)
  · with_reducible replace Q15 := of_decide_eq_true Q15
    obtain ⟨bL, oL, rfl, hcs⟩ := ha.row (by omega)
    have hil : i < Ls.length := by omega
    obtain ⟨Ai, ci, hci, hri, hni⟩ := hcs i hil
    have hfl := fl_len hil
    have hfm := fl_le (Ls := Ls) (i + 1)
    obtain ⟨bJ, oJ, rfl, hcj⟩ := hLL (by omega)
    obtain ⟨Aj, cj, hcj, hrj, hnj⟩ := hcj i hil
    refine cd_skip (nx_then (cd_seq (cd_block (cd_seq ?_))))
    have h0 : True := trivial
    apply cd_drawnD 11 [(58, eqp _), (59, eqp _), (60, eqp _), (61, eqp _), (62, eqp _), (63, eqp _), (64, eqp _), (65, eqp _), (66, eqp _), (67, eqp _), (68, eqp _)] (by repeat first | exact pq_body | refine pq_then ?_ | refine pq_block ?_) (by kernel_rfl) (by kernel_rfl) ⟨eqp_mono _, eqp_mono _, eqp_mono _, eqp_mono _, eqp_mono _, eqp_mono _, eqp_mono _, eqp_mono _, eqp_mono _, eqp_mono _, eqp_mono _, trivial⟩
    case hop =>
     refine ⟨?_, ?_⟩
     · rintro - w17 D17
       show OpOK _ _ _ _ _ _ _
       exact ok_pure (ro_move (v := .slice _ _ _) rfl) rfl
     refine ⟨?_, ?_⟩
     · rintro - w18 D18
       show OpOK _ _ _ _ _ _ _
       exact ok_pure (ro_move (v := .int _ _) rfl) rfl
     refine ⟨?_, ?_⟩
     · rintro - w19 D19
       rintro _ rfl _ rfl
       show OpOK _ _ _ _ _ _ _
       exact ok_pure (ro_indexAddr1 TrLawM_e22 rfl rfl (by omega)) rfl
     refine ⟨?_, ?_⟩
     · rintro - w20 D20
       rintro _ rfl
       show OpOK _ _ _ _ _ _ _
       exact ok_pure (ro_load TrLawM_g27 rfl (by exact cellF D20 hcj)) rfl
     refine ⟨?_, ?_⟩
     · rintro - w21 D21
       show OpOK _ _ _ _ _ _ _
       exact ok_pure (ro_fieldAddr TrLawM_f25_0 rfl) rfl
     refine ⟨?_, ?_⟩
     · rintro - w22 D22
       rintro _ rfl
       show OpOK _ _ _ _ _ _ _
       exact ok_pure (ro_load TrLawM_g22 rfl (by first | (first | exact (hP1.from_ (From.rfl_.next D22)).whole | exact (hP1.from_ (From.rfl_.next D22)).rd 0 rfl | exact (hP1.from_ (From.rfl_.next D22)).rd 1 rfl) | (first | exact (hk1.from_ (From.rfl_.next D22)).whole | exact (hk1.from_ (From.rfl_.next D22)).rd 0 rfl | exact (hk1.from_ (From.rfl_.next D22)).rd 1 rfl))) rfl
     refine ⟨?_, ?_⟩
     · rintro - w23 D23
       show OpOK _ _ _ _ _ _ _
       exact ok_pure (ro_move (v := .int _ _) rfl) rfl
     refine ⟨?_, ?_⟩
     · rintro - w24 D24
       rintro _ rfl _ rfl
       show OpOK _ _ _ _ _ _ _
       exact ok_pure (ro_indexAddr1 TrLawM_e22 rfl rfl (by omega)) rfl
     refine ⟨?_, ?_⟩
     · rintro - w25 D25
       rintro _ rfl
       show OpOK _ _ _ _ _ _ _
       exact ok_pure (ro_load TrLawM_g27 rfl (by exact cellF (hB.next D25) hci)) rfl
     refine ⟨?_, ?_⟩
     · rintro - w26 D26
       rintro _ rfl _ rfl
       show OpOK _ _ _ _ _ _ _
       refine ok_call TrLawM_k10 ((eqDocs_same Aj Ai cj ci Ls[i].length Ls[i].length Ls[i] _ (hrj.from_ D26) (hri.from_ (hB.next D26)) rfl rfl (by omega)).mono ?_)
       rintro v _ ⟨rfl, E26'⟩; exact ⟨E26', rfl⟩
     refine ⟨?_, ?_⟩
     · rintro - w27 D27
       rintro _ rfl
       show OpOK _ _ _ _ _ _ _
       exact ok_pure (ro_bf (ro_not rfl) rfl) rfl
     exact trivial
    case hend =>
     intro w28 D28
     rintro _ rfl _ rfl _ rfl _ rfl _ rfl _ rfl _ rfl _ rfl _ rfl _ rfl _ rfl
     show St _ _ _ _ _ _ _
     refine st_nil (nx_then ?_)
     refine cd_condF rfl ?_
     refine cd_skip (nx_block (nx_then (cd_region ?_)))
     refine mvi rfl ?_
     refine st_val (ro_addN (b := 1) rfl rfl (by omega)) ?_
     refine asi rfl ?_
     refine st_nil ?_
     refine nx_cut (i + 1) ⟨(by first | rfl | (refine int_eq ?_; omega)), trivial⟩ (by (iterate 39 refine agr_cons rfl ?_); exact agr_rfl) ⟨?_, ?_⟩
     · exact ⟨by omega, hLL.from_ (From.rfl_.next D28), hP1.from_ (From.rfl_.next D28), (hB.next D28)⟩
     · show Ls.length - (i + 1) < Ls.length - i; omega
  with_reducible replace Q15 := of_decide_eq_false Q15
  refine cd_exit ?_
  refine ex_then (ex_then (ex_block (nx_then (cd_seq (cd_region ?_)))))
  refine st_call TrLawM_k12 (wakes_rt _) ?_
  rintro v69 w29 ⟨rfl, E69⟩
  refine asb rfl ?_
  refine st_nil (nx_then (cd_ret ?_))
  refine res1 (v := .bool _) rfl rfl ?_
  exact ⟨rfl, (hB.next E69)⟩
theorem merges_arg (cs : Array Value) (x : (Ty.pr (Ty.sl (.sl docT)) (.pr (.sl (.int .i64)) .unit)).den) (w : World) (hs : cs.size = 2) (h : (Ty.pr (Ty.sl (.sl docT)) (.pr (.sl (.int .i64)) .unit)).At w (fun j => cs[j]?) x) :
    Rt Try.prog 3 [.agg cs] w fun v w' => v = .bool true ∧ From w w' := by
  obtain ⟨A, B, ca, cb, Ls, is, rfl, ha⟩ := ask_of12 hs h
  exact merges_law A B ca cb Ls is w ha
theorem TiersMerges_lifted (os : Os) (started : os.Started) (H : Type) (enc : TypeId × Value → H) :
    ReturnsInHanded {} Try.checked os 3 .any (Rows.tiersMergesSpec.pre6 enc Try.prog Try.f3 Rows.tiersMergesRow.domain false) (Rows.tiersMergesSpec.post enc Try.prog Try.f3 false true false false) := by
  refine returnsInHanded_of_change_sized (C := Try.checked) Try.own started (by kernel_rfl) Try.func3
    (ChangeSpec.witness6 (enc := enc) (C := Try.checked) false ⟨#[], #[.agg #[.slice none 0 0, .slice none 0 0]], []⟩ 8 (by kernel_rfl) (by kernel_rfl) (by kernel_rfl) (by kernel_rfl)) ?_
  intro W base args ds gs before hval hW _ hsz _
  exact law_step 3 Try.f3 25 4 Rows.tiersMergesSpec Try.params3 (by kernel_rfl) Try.underlying4 rfl (fun _ => rfl) (by kernel_rfl) (of_decide_eq_true (by kernel_rfl)) (walk_struct (Ty.sl (.sl docT)) (.pr (.sl (.int .i64)) .unit) (by kernel_rfl) merges_arg) W base args ds gs before hval hW hsz

theorem TiersMerges_holds : Rows.TiersMergesSaid :=
  OpenClaim.holds_of_wide 3 Try.f3 rfl rfl rfl rfl rfl rfl rfl ⟨rfl, rfl, rfl, rfl, rfl⟩ rfl rfl rfl rfl rfl (by kernel_rfl) Try.func3 (by kernel_rfl)
    (of_decide_eq_true (by kernel_rfl)) (by unfold Func.isWrapper; first | (rw [if_pos (by decide +kernel)]; kernel_rfl) | (rw [if_neg (by decide +kernel)]; exact ⟨rfl, rfl⟩))
    (fun os started H enc _ => TiersMerges_lifted os started H enc)
#print axioms TiersMerges_holds

end Go.Proofs.Ytllpcjdljgmilaa

namespace Go.Proofs.Ytllpcjdljgmilaa
open Go.RowKit
open Go.ChangeShapes Go.WideShapes Go.ChangeAt
end Go.Proofs.Ytllpcjdljgmilaa
