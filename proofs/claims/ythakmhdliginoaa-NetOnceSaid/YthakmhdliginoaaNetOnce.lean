/- The law NetOnce. -/
import Derived.Test.YthakmhdliginoaaNetOnce0
namespace Go.Proofs.Ythakmhdliginoaa
open Go.RowKit
open Go.ChangeShapes Go.WideShapes Go.ChangeAt
theorem NetOnce_e27 : elemQ Try.prog 27 = some (33, 13) := by kernel_rfl
theorem NetOnce_p24 : Try.prog.underlying 24 = some (.pointer (Try.prog.pointee 24)) := by kernel_rfl
theorem NetOnce_e28 : elemQ Try.prog 28 = some (3, 1) := by kernel_rfl
theorem NetOnce_g3 : aggQ Try.prog 3 = some false := by kernel_rfl
theorem NetOnce_k6 : callable Try.prog 6 = true := by kernel_rfl
theorem NetOnce_k7 : callable Try.prog 7 = true := by kernel_rfl
theorem NetOnce_l22 : (elemQ Try.prog 22).isSome = true := by kernel_rfl
theorem NetOnce_m28 : makeQ Try.prog 28 = some (3, 8, (.int .i64 0)) := by kernel_rfl
theorem NetOnce_b33_0cinti642_3 : ∀ (a0 : Int), Try.prog.built 33 [(0, .int .i64 2), (3, .int .i64 a0)] = some #[.int .i64 2, .int .i64 0, .int .i64 0, .int .i64 a0, .int .i64 0, .int .i64 0, .int .i64 0, .int .i64 0, .bool false, .slice none 0 0, .int .i64 0, .string ⟨#[]⟩, .bool false] := by intros; kernel_rfl
theorem NetOnce_e22 : elemQ Try.prog 22 = some (35, 16) := by kernel_rfl
theorem NetOnce_f35_3 : fieldQ Try.prog 35 3 = some 15 := by kernel_rfl
theorem NetOnce_k15 : callable Try.prog 15 = true := by kernel_rfl
theorem NetOnce_k20 : callable Try.prog 20 = true := by kernel_rfl
theorem NetOnce_z3 : sizeQ Try.prog 3 = some 1 := by kernel_rfl
theorem NetOnce_k9 : callable Try.prog 9 = true := by kernel_rfl
theorem NetOnce_l27 : (elemQ Try.prog 27).isSome = true := by kernel_rfl
theorem NetOnce_f33_3 : fieldQ Try.prog 33 3 = some 3 := by kernel_rfl
theorem NetOnce_f33_0 : fieldQ Try.prog 33 0 = some 0 := by kernel_rfl
theorem NetOnce_k21 : callable Try.prog 21 = true := by kernel_rfl
theorem NetOnce_k18 : callable Try.prog 18 = true := by kernel_rfl
theorem NetOnce_k19 : callable Try.prog 19 = true := by kernel_rfl
/-- what is so of a network while messages are put in -/
def InvP (m k : Nat) (L : Pars) (W : List Int) : Prop := Sorted L ∧ L.length ≤ 2 * k ∧ W.length = m ∧ (∀ j (h : j < W.length), W[j] = cntT L (j : Nat)) ∧ ∀ p ∈ L, p.1.k = 2 ∧ 0 ≤ p.1.tm ∧ p.1.tm < k ∧ 101 ≤ p.2 ∧ p.2 ≤ 109
/-- while they are taken -/
def InvT (m : Nat) (T : Int) (L : Pars) (W Q : List Int) : Prop := Sorted L ∧ L.length ≤ 120 ∧ W.length = m ∧ Q.length = m ∧ (∀ j (h : j < W.length) (h2 : j < Q.length), Q[j] + cntT L (j : Nat) = W[j] ∧ 0 ≤ Q[j] ∧ W[j] ≤ 120) ∧ ∀ p ∈ L, p.1.k = 2 ∧ 0 ≤ p.1.tm ∧ p.1.tm < m ∧ T ≤ p.2 ∧ p.2 ≤ 109
theorem cntM_le (X : List Msg) (j : Int) : 0 ≤ cntM X j ∧ cntM X j ≤ X.length := by
  unfold cntM
  have := List.countP_le_length (p := fun x => decide (x.tm = j)) (l := X)
  omega
theorem cntT_le (L : Pars) (j : Int) : 0 ≤ cntT L j ∧ cntT L j ≤ L.length := by
  unfold cntT
  have := List.countP_le_length (p := fun x : Msg × Int => decide (x.1.tm = j)) (l := L)
  omega
theorem invP_zero (m : Nat) : InvP m 0 [] (List.replicate m 0) := ⟨sorted_nil, by simp, by simp, fun j h => by simp [cntT], fun p hp => by simp at hp⟩
theorem invP_step {m k : Nat} {L : Pars} {W : List Int} (h : InvP m k L W) (hk : k < m) (hm : m ≤ 60) (pick : Int) : InvP m (k + 1) (putAll (mK 2 (k : Nat)) (timesOf 100 pick) L) (W.set k (numOf pick)) := by
  obtain ⟨h1, h2, h3, h4, h5⟩ := h
  refine ⟨putAll_sorted _ h1, by have := puts_len (x := mK 2 (k : Nat)) (now := 100) (pick := pick) (L := L) (by omega); omega, by rw [List.length_set]; exact h3, fun j hj => ?_, fun p hp => ?_⟩
  · rw [List.length_set] at hj
    rw [puts_cnt (by omega), List.getElem_set]
    by_cases hjk : k = j
    · subst hjk
      rw [if_pos rfl]
      have h0 : cntT L (k : Nat) = 0 := cnt_none fun p hp => by have := (h5 p hp).2.2.1; omega
      have e : (mK 2 (k : Nat)).tm = ((k : Nat) : Int) := rfl
      rw [h0, if_pos e]
      omega
    · rw [if_neg hjk, h4 j hj]
      have e : ¬ (mK 2 (k : Nat)).tm = ((j : Nat) : Int) := by show ¬ ((k : Nat) : Int) = ((j : Nat) : Int); omega
      rw [if_neg e]
      omega
  · rcases puts_mem (by omega) hp with a | ⟨a, b, c⟩
    · have := h5 p a
      omega
    · rw [a]
      refine ⟨rfl, ?_, ?_, by omega, by omega⟩
      · show (0 : Int) ≤ ((k : Nat) : Int); omega
      · show ((k : Nat) : Int) < ((k + 1 : Nat) : Int); omega
theorem invP_self {m k : Nat} {L : Pars} {W : List Int} (h : InvP m k L W) (hk : k < m) : W[k]? = some 0 := by
  obtain ⟨h1, h2, h3, h4, h5⟩ := h
  have hl : k < W.length := by omega
  rw [List.getElem?_eq_getElem hl, h4 k hl, cnt_none fun p hp => by have := (h5 p hp).2.2.1; omega]
theorem set_same {W : List Int} {k : Nat} (h : W[k]? = some 0) : W.set k 0 = W := by
  obtain ⟨hl, he⟩ := List.getElem?_eq_some_iff.1 h
  apply List.ext_getElem
  · simp
  · intro i h1 h2
    rw [List.getElem_set]
    split
    · rename_i e; subst e; exact he.symm
    · rfl
theorem invT_start {m : Nat} {L : Pars} {W : List Int} (h : InvP m m L W) (hm : m ≤ 60) : InvT m 101 L W (List.replicate m 0) := by
  obtain ⟨h1, h2, h3, h4, h5⟩ := h
  refine ⟨h1, by omega, h3, by simp, fun j hj hj2 => ?_, fun p hp => ?_⟩
  · have := cntT_le L (j : Nat)
    rw [List.getElem_replicate, h4 j hj]; omega
  · have := h5 p hp; omega
theorem invT_drop {m : Nat} {T : Int} {L : Pars} {W Q Q' : List Int} (h : InvT m T L W Q) (hl : Q'.length = m) (hq : ∀ j (h : j < Q.length) (h' : j < Q'.length), Q'[j] = Q[j] + cntM ((L.take (dueN L T)).map (·.1)) (j : Nat)) : InvT m (T + 1) (L.drop (dueN L T)) W Q' := by
  obtain ⟨h1, h2, h3, h4, h5, h6⟩ := h
  refine ⟨drop_sorted h1 _, by rw [List.length_drop]; omega, h3, hl, fun j hj hj2 => ?_, fun p hp => ?_⟩
  · have a := h5 j hj (by omega)
    have b := hq j (by omega) hj2
    have c := cnt_split L (dueN L T) (j : Nat)
    have d := cntM_le ((L.take (dueN L T)).map (·.1)) (j : Nat)
    omega
  · have a := h6 p (List.mem_of_mem_drop hp)
    obtain ⟨i, hi, rfl⟩ := List.getElem_of_mem hp
    rw [List.length_drop] at hi
    rw [List.getElem_drop] at a ⊢
    have b := (due_cut h1 T).2.2 (dueN L T + i) (by omega) (by omega)
    omega
theorem invT_end {m : Nat} {T : Int} {L : Pars} {W Q : List Int} (h : InvT m T L W Q) (hT : 109 < T) : L = [] ∧ W = Q := by
  obtain ⟨h1, h2, h3, h4, h5, h6⟩ := h
  have hL : L = [] := List.eq_nil_iff_forall_not_mem.2 fun p hp => by have := h6 p hp; omega
  refine ⟨hL, ?_⟩
  apply List.ext_getElem
  · omega
  · intro j h1' h2'
    have := h5 j h1' h2'
    subst hL
    simp [cntT] at this
    omega
/-- while those of one time are counted -/
def InvC (Q Q' : List Int) (X : List Msg) (i : Nat) : Prop := Q'.length = Q.length ∧ ∀ j (h : j < Q.length) (h' : j < Q'.length), Q'[j] = Q[j] + cntM (X.take i) (j : Nat)
theorem invC_bound {m : Nat} {T : Int} {L : Pars} {W Q Q' : List Int} {X : List Msg} {i t : Nat} (h : InvT m T L W Q) (hc : InvC Q Q' X i) (hX : X.length ≤ 120) (ht : t < Q'.length) : 0 ≤ Q'[t] ∧ Q'[t] ≤ 240 := by
  obtain ⟨h1, h2, h3, h4, h5, h6⟩ := h
  obtain ⟨c1, c2⟩ := hc
  have a := h5 t (by omega) (by omega)
  have b := c2 t (by omega) ht
  have c := cntM_le (X.take i) (t : Nat)
  rw [List.length_take] at c
  have d := cntT_le L (t : Nat)
  omega
theorem invC_step {Q Q' : List Int} {X : List Msg} {i t : Nat} (h : InvC Q Q' X i) (hi : i < X.length) (ht : X[i].tm = (t : Nat)) (hq : t < Q'.length) : InvC Q (Q'.set t (Q'[t] + 1)) X (i + 1) := by
  obtain ⟨h1, h2⟩ := h
  refine ⟨by rw [List.length_set]; exact h1, fun j hj hj' => ?_⟩
  rw [List.length_set] at hj'
  rw [cntM_succ hi, ht, List.getElem_set]
  by_cases hjt : t = j
  · subst hjt
    rw [if_pos rfl, if_pos rfl, h2 t hj hq]
    omega
  · rw [if_neg hjt, if_neg (by omega), h2 j hj hj']
    omega
set_option maxRecDepth 100000 in
set_option maxHeartbeats 1000000 in
theorem netOnce_law (A : Option Addr) (c n : Nat) (X : Nat → ActR) (w : World) (hr : RowA w A n X) (hl : n ≤ 140737488351232) :
    Rt Try.prog 4 [.slice A n c] w (fun v w' => v = .bool true ∧ From w w') := by
  obtain ⟨m, hm⟩ : ∃ m, m = min n 60 := ⟨_, rfl⟩
  have hm60 : m ≤ 60 := by omega
  have hmn : m ≤ n := by omega
  refine enter (n := 115) Try.func4 rfl rfl rfl ?_
  refine cd_seq ?_
  refine cd_region ?_
  refine st_val (ro_assign (v := .bool _) rfl) ?_
  refine st_nil ?_
  refine nx_then ?_
  refine cd_seq ?_
  refine cd_seq ?_
  refine cd_region ?_
  refine st_val (ro_move (v := .slice _ _ _) rfl) ?_
  refine st_call NetOnce_k6 (heavy_any A c n X _ hr hl) ?_
  rintro v12 w1 ⟨⟨b12, rfl⟩, E12⟩
  refine st_nil ?_
  refine nx_then ?_
  refine cd_cond rfl (fun Q2 => ?_) (fun Q2 => ?_)
  · (try with_reducible first | replace Q2 := of_decide_eq_true Q2 | replace Q2 := of_decide_eq_false Q2 | replace Q2 := bn_t Q2 | replace Q2 := bn_f Q2)
    (try with_reducible first | replace Q2 := of_decide_eq_true Q2 | replace Q2 := of_decide_eq_false Q2 | replace Q2 := bx_t Q2 | replace Q2 := bx_f Q2 | replace Q2 := be_t Q2 | replace Q2 := be_f Q2)
    refine cd_seq ?_
    refine cd_region ?_
    refine st_val (ro_assign (v := .bool _) rfl) ?_
    refine st_nil ?_
    refine nx_then ?_
    refine cd_ret ?_
    refine rt_then ?_
    refine res1 (v := .bool _) rfl rfl ?_
    first
      | exact ⟨rfl, (From.rfl_.next E12)⟩
      | (exfalso; simp_all; done)
  · (try with_reducible first | replace Q2 := of_decide_eq_true Q2 | replace Q2 := of_decide_eq_false Q2 | replace Q2 := bn_t Q2 | replace Q2 := bn_f Q2)
    (try with_reducible first | replace Q2 := of_decide_eq_true Q2 | replace Q2 := of_decide_eq_false Q2 | replace Q2 := bx_t Q2 | replace Q2 := bx_f Q2 | replace Q2 := be_t Q2 | replace Q2 := be_f Q2)
    refine cd_skip ?_
    refine nx_then ?_
    refine cd_seq ?_
    refine cd_region ?_
    refine st_call NetOnce_k7 (new_rt2 _ w.heap.size (From.rfl_.next E12).size) ?_
    rintro v13 w3 ⟨⟨b, rfl, hn13⟩, E13⟩
    refine st_val (ro_assign (v := .pointer _) rfl) ?_
    refine st_nil ?_
    refine nx_then ?_
    refine cd_seq ?_
    refine cd_seq ?_
    refine cd_region ?_
    refine st_val (ro_move (v := .pointer _) rfl) ?_
    refine st_val (ro_bf (ro_eqlNil NetOnce_p24 rfl rfl) rfl) ?_
    refine st_nil ?_
    refine nx_then ?_
    refine cd_condF rfl ?_
    refine cd_skip ?_
    refine nx_then ?_
    refine cd_seq ?_
    refine cd_region ?_
    refine st_val (ro_move (v := .slice _ _ _) rfl) ?_
    refine st_val (ro_len NetOnce_l22 rfl) ?_
    refine st_val (ro_eq (ro_min rfl rfl) (int_eq (show min ((n : Nat) : Int) 60 = ((m : Nat) : Int) by omega))) ?_
    refine st_val (ro_assign (v := .int _ _) rfl) ?_
    refine st_nil ?_
    refine nx_then ?_
    refine cd_seq ?_
    refine cd_region ?_
    refine st_val (ro_move (v := .int _ _) rfl) ?_
    refine st_make NetOnce_m28 rfl rfl rfl (by omega) (by omega) ?_
    intro b20 w4 E20 hb20 hk20
    have hb20e := hb20
    have hb20 : b20 ≠ b := by have := hn13.2.1.lt; omega
    have hz20 := hk20.lt
    refine st_val (ro_assign (v := .slice _ _ _) rfl) ?_
    refine st_nil ?_
    refine nx_then ?_
    refine cd_seq ?_
    refine cd_region ?_
    refine st_val (ro_move (v := .int _ _) rfl) ?_
    refine st_make NetOnce_m28 rfl rfl rfl (by omega) (by omega) ?_
    intro b22 w5 E22 hb22 hk22
    have hb22 : b22 ≠ b := by have := (hn13.from_ E20).2.1.lt; omega
    have hb2022 : b20 ≠ b22 := by omega
    have hg20 : w.heap.size ≤ b20 := by rw [hb20e]; exact Nat.le_of_lt (Nat.lt_of_le_of_lt hn13.1 hn13.2.1.lt)
    have hg22 : w.heap.size ≤ b22 := by omega
    refine st_val (ro_assign (v := .slice _ _ _) rfl) ?_
    refine st_nil ?_
    refine nx_then ?_
    refine cd_seq ?_
    refine cd_seq ?_
    refine cd_region ?_
    refine st_val (ro_assign (v := .int _ _) rfl) ?_
    refine st_nil ?_
    refine nx_then ?_
    refine cd_block ?_
    refine cd_loop (G := Nat × Option Addr × Nat × Pars × List Int) [23, 24, 25, 26, 27, 28, 29, 30, 31, 32, 33, 34, 35, 36, 37, 38, 39, 40, 41, 42, 43, 44, 45, 46, 47, 48, 49, 50, 51, 52, 53] (fun (k, _, _, _, _) => [(7, .int .i64 (k : Nat))]) (fun (k, A', c', L, W) w' => k ≤ m ∧ NetAt w' w.heap.size b A' c' L ∧ InvP m k L W ∧ Blk w' b20 3 (W.map iV).toArray ∧ Blk w' b22 3 ((List.replicate m (0 : Int)).map iV).toArray ∧ From w w') (fun (k, _, _, _, _) => m - k) ((0, none, 0, [], List.replicate m 0)) ⟨rfl, trivial⟩ ?_ ?_
    · exact ⟨Nat.zero_le _, hn13.from_ (E20.next E22), invP_zero m, by rw [← repl_map]; exact hk20.from_ E22, by rw [← repl_map]; exact hk22, ((((From.rfl_.next E12).next E13).next E20).next E22)⟩
    rintro ⟨k, A', c', L, W⟩ ρ6 w6 ⟨hk, hn, hI, hW, hQ, hB⟩
    refine cd_seq ?_
    refine cd_seq ?_
    refine cd_region ?_
    refine st_val (ro_move (v := .int _ _) rfl) ?_
    refine st_val (ro_move (v := .int _ _) rfl) ?_
    refine st_val (ro_lss rfl rfl) ?_
    refine st_nil ?_
    refine nx_then ?_
    refine cd_cond rfl (fun Q7 => ?_) (fun Q7 => ?_)
    · (try with_reducible first | replace Q7 := of_decide_eq_true Q7 | replace Q7 := of_decide_eq_false Q7 | replace Q7 := bn_t Q7 | replace Q7 := bn_f Q7)
      (try with_reducible first | replace Q7 := of_decide_eq_true Q7 | replace Q7 := of_decide_eq_false Q7 | replace Q7 := bx_t Q7 | replace Q7 := bx_f Q7 | replace Q7 := be_t Q7 | replace Q7 := be_f Q7)
      have hkm : k < m := by omega
      obtain ⟨ba, oa, hA, hcs⟩ := hr (by omega)
      subst hA
      obtain ⟨c10, c12, c14, c15, hen, hel, hdl, hpk⟩ := hcs k (by omega)
      refine cd_skip ?_
      refine nx_then ?_
      refine cd_cut (G := Option Addr × Nat × List Int) [28, 29, 30, 31, 32, 33, 34, 35, 36, 37, 38, 39, 40, 41, 42, 43, 44, 45, 46, 47, 48, 49, 50, 51, 52, 53] (fun _ => []) (fun (A36, c36, W') w' => W' = W.set k (numOf (X k).pk) ∧ Blk w' b20 3 (W'.map iV).toArray ∧ Blk w' b22 3 ((List.replicate m (0 : Int)).map iV).toArray ∧ NetAt w' w.heap.size b A36 c36 (putAll (mK 2 (k : Nat)) (timesOf 100 (X k).pk) L) ∧ From w w') ?_ ?_
      · refine cd_block ?_
        refine cd_seq ?_
        refine cd_region ?_
        refine st_val (ro_move (v := .pointer _) rfl) ?_
        refine st_val (ro_move (v := .int _ _) rfl) ?_
        refine st_val (ro_build (l := [(0, .const (.int .i64 2)), (3, .tmp 29)]) (NetOnce_b33_0cinti642_3 _)) ?_
        refine st_val (ro_move (v := .slice _ _ _) rfl) ?_
        refine st_val (ro_move (v := .int _ _) rfl) ?_
        refine st_val (ro_indexAddrN NetOnce_e22 rfl rfl (by omega)) ?_
        refine st_val (ro_fieldAddr NetOnce_f35_3 rfl) ?_
        refine st_val (ro_load NetOnce_g3 rfl (by exact cellF hB c15)) ?_
        have hF36 : From w w6 := hB
        refine st_call NetOnce_k15 (put_n w.heap.size b A' c' L _ hn (by have := hI.2.1; omega) hI.1 (mK 2 (k : Nat)) 100 (X k).pk (by decide) hpk _ rfl) ?_
        rintro v36 w8 ⟨rfl, ⟨A36, c36, hn36⟩, hK36⟩
        have hW36 := hK36.blk _ _ _ hb20 (by decide) hW
        have hQ36 := hK36.blk _ _ _ hb22 (by decide) hQ
        refine st_nil ?_
        refine nx_then ?_
        refine cd_seq ?_
        refine cd_region ?_
        refine st_val (ro_move (v := .slice _ _ _) rfl) ?_
        refine st_val (ro_move (v := .int _ _) rfl) ?_
        refine st_val (ro_indexAddrN NetOnce_e22 rfl rfl (by omega)) ?_
        refine st_val (ro_fieldAddr NetOnce_f35_3 rfl) ?_
        refine st_val (ro_load NetOnce_g3 rfl (by exact cellF (hK36.from_ hB (Nat.le_refl _)) c15)) ?_
        refine st_call NetOnce_k20 (mod_rt (X k).pk 4 _ (.inl rfl) hpk) ?_
        rintro v42 w9 ⟨rfl, rfl⟩
        refine st_nil ?_
        refine nx_then ?_
        refine cd_block ?_
        refine cd_seq ?_
        refine cd_seq ?_
        refine cd_region ?_
        refine st_val (ro_eql rfl rfl) ?_
        refine st_val (ro_assign (v := .bool _) rfl) ?_
        refine st_nil ?_
        refine nx_then ?_
        refine cd_cond rfl (fun Q10 => ?_) (fun Q10 => ?_)
        · (try with_reducible first | replace Q10 := of_decide_eq_true Q10 | replace Q10 := of_decide_eq_false Q10 | replace Q10 := bn_t Q10 | replace Q10 := bn_f Q10)
          (try with_reducible first | replace Q10 := of_decide_eq_true Q10 | replace Q10 := of_decide_eq_false Q10 | replace Q10 := bx_t Q10 | replace Q10 := bx_f Q10 | replace Q10 := be_t Q10 | replace Q10 := be_f Q10)
          first
           | (exfalso; omega)
           | skip
             refine cd_skip ?_
             refine nx_then ?_
             refine cd_cond rfl (fun Q11 => ?_) (fun Q11 => ?_)
             · (try with_reducible first | replace Q11 := of_decide_eq_true Q11 | replace Q11 := of_decide_eq_false Q11 | replace Q11 := bn_t Q11 | replace Q11 := bn_f Q11)
               (try with_reducible first | replace Q11 := of_decide_eq_true Q11 | replace Q11 := of_decide_eq_false Q11 | replace Q11 := bx_t Q11 | replace Q11 := bx_f Q11 | replace Q11 := be_t Q11 | replace Q11 := be_f Q11)
               first
                | (exfalso; omega)
                | skip
                  refine cd_region ?_
                  refine st_val (ro_move (v := .slice _ _ _) rfl) ?_
                  refine st_val (ro_move (v := .int _ _) rfl) ?_
                  refine st_val (ro_indexAddr0 (i := k) NetOnce_e28 rfl rfl (by omega)) ?_
                  refine st_put (v := .int _ _) NetOnce_z3 rfl rfl rfl (hW36) (by simp; have := hI.2.2.1; omega) ?_
                  intro w12 O16 P16
                  refine st_nil ?_
                  refine nx_block ?_
                  refine nx_block ?_
                  refine nx_cut ((A36, c36, W.set k 1)) trivial (by (iterate 20 refine agr_cons rfl ?_); exact agr_rfl) ?_
                  exact ⟨by unfold numOf; first | rw [if_pos (by assumption)] | rw [if_neg (by assumption), if_pos (by assumption)], by rw [← arr_set]; exact P16, hQ36.only O16 (by omega), hn36.only O16 hW36 hb20 (by decide), ((hK36.from_ hB (Nat.le_refl _)).only O16 (hg20))⟩
             · (try with_reducible first | replace Q11 := of_decide_eq_true Q11 | replace Q11 := of_decide_eq_false Q11 | replace Q11 := bn_t Q11 | replace Q11 := bn_f Q11)
               (try with_reducible first | replace Q11 := of_decide_eq_true Q11 | replace Q11 := of_decide_eq_false Q11 | replace Q11 := bx_t Q11 | replace Q11 := bx_f Q11 | replace Q11 := be_t Q11 | replace Q11 := be_f Q11)
               first
                | (exfalso; omega)
                | skip
                  refine cd_seq ?_
                  refine cd_region ?_
                  refine st_val (ro_eql rfl rfl) ?_
                  refine st_val (ro_assign (v := .bool _) rfl) ?_
                  refine st_nil ?_
                  refine nx_then ?_
                  refine cd_cond rfl (fun Q13 => ?_) (fun Q13 => ?_)
                  · (try with_reducible first | replace Q13 := of_decide_eq_true Q13 | replace Q13 := of_decide_eq_false Q13 | replace Q13 := bn_t Q13 | replace Q13 := bn_f Q13)
                    (try with_reducible first | replace Q13 := of_decide_eq_true Q13 | replace Q13 := of_decide_eq_false Q13 | replace Q13 := bx_t Q13 | replace Q13 := bx_f Q13 | replace Q13 := be_t Q13 | replace Q13 := be_f Q13)
                    first
                     | (exfalso; omega)
                     | skip
                       refine cd_region ?_
                       refine st_val (ro_move (v := .slice _ _ _) rfl) ?_
                       refine st_val (ro_move (v := .int _ _) rfl) ?_
                       refine st_val (ro_indexAddr0 (i := k) NetOnce_e28 rfl rfl (by omega)) ?_
                       refine st_put (v := .int _ _) NetOnce_z3 rfl rfl rfl (hW36) (by simp; have := hI.2.2.1; omega) ?_
                       intro w14 O18 P18
                       refine st_nil ?_
                       refine nx_block ?_
                       refine nx_block ?_
                       refine nx_cut ((A36, c36, W.set k 2)) trivial (by (iterate 22 refine agr_cons rfl ?_); exact agr_rfl) ?_
                       exact ⟨by unfold numOf; rw [if_neg (by assumption), if_neg (by assumption), if_pos (by assumption)], by rw [← arr_set]; exact P18, hQ36.only O18 (by omega), hn36.only O18 hW36 hb20 (by decide), ((hK36.from_ hB (Nat.le_refl _)).only O18 (hg20))⟩
                  · (try with_reducible first | replace Q13 := of_decide_eq_true Q13 | replace Q13 := of_decide_eq_false Q13 | replace Q13 := bn_t Q13 | replace Q13 := bn_f Q13)
                    (try with_reducible first | replace Q13 := of_decide_eq_true Q13 | replace Q13 := of_decide_eq_false Q13 | replace Q13 := bx_t Q13 | replace Q13 := bx_f Q13 | replace Q13 := be_t Q13 | replace Q13 := be_f Q13)
                    first
                     | (exfalso; omega)
                     | skip
                       refine cd_skip ?_
                       refine nx_block ?_
                       refine nx_block ?_
                       refine nx_cut ((A36, c36, W)) trivial (by (iterate 19 refine agr_cons rfl ?_); exact agr_rfl) ?_
                       exact ⟨by unfold numOf; rw [if_neg (by assumption), if_neg (by assumption), if_neg (by assumption)]; exact (set_same (invP_self hI hkm)).symm, hW36, hQ36, hn36, (hK36.from_ hB (Nat.le_refl _))⟩
        · (try with_reducible first | replace Q10 := of_decide_eq_true Q10 | replace Q10 := of_decide_eq_false Q10 | replace Q10 := bn_t Q10 | replace Q10 := bn_f Q10)
          (try with_reducible first | replace Q10 := of_decide_eq_true Q10 | replace Q10 := of_decide_eq_false Q10 | replace Q10 := bx_t Q10 | replace Q10 := bx_f Q10 | replace Q10 := be_t Q10 | replace Q10 := be_f Q10)
          first
           | (exfalso; omega)
           | skip
             refine cd_region ?_
             refine st_val (ro_eql rfl rfl) ?_
             refine st_val (ro_assign (v := .bool _) rfl) ?_
             refine st_nil ?_
             refine nx_then ?_
             refine cd_cond rfl (fun Q15 => ?_) (fun Q15 => ?_)
             · (try with_reducible first | replace Q15 := of_decide_eq_true Q15 | replace Q15 := of_decide_eq_false Q15 | replace Q15 := bn_t Q15 | replace Q15 := bn_f Q15)
               (try with_reducible first | replace Q15 := of_decide_eq_true Q15 | replace Q15 := of_decide_eq_false Q15 | replace Q15 := bx_t Q15 | replace Q15 := bx_f Q15 | replace Q15 := be_t Q15 | replace Q15 := be_f Q15)
               first
                | (exfalso; omega)
                | skip
                  refine cd_region ?_
                  refine st_val (ro_move (v := .slice _ _ _) rfl) ?_
                  refine st_val (ro_move (v := .int _ _) rfl) ?_
                  refine st_val (ro_indexAddr0 (i := k) NetOnce_e28 rfl rfl (by omega)) ?_
                  refine st_put (v := .int _ _) NetOnce_z3 rfl rfl rfl (hW36) (by simp; have := hI.2.2.1; omega) ?_
                  intro w16 O16 P16
                  refine st_nil ?_
                  refine nx_block ?_
                  refine nx_block ?_
                  refine nx_cut ((A36, c36, W.set k 1)) trivial (by (iterate 22 refine agr_cons rfl ?_); exact agr_rfl) ?_
                  exact ⟨by unfold numOf; first | rw [if_pos (by assumption)] | rw [if_neg (by assumption), if_pos (by assumption)], by rw [← arr_set]; exact P16, hQ36.only O16 (by omega), hn36.only O16 hW36 hb20 (by decide), ((hK36.from_ hB (Nat.le_refl _)).only O16 (hg20))⟩
             · (try with_reducible first | replace Q15 := of_decide_eq_true Q15 | replace Q15 := of_decide_eq_false Q15 | replace Q15 := bn_t Q15 | replace Q15 := bn_f Q15)
               (try with_reducible first | replace Q15 := of_decide_eq_true Q15 | replace Q15 := of_decide_eq_false Q15 | replace Q15 := bx_t Q15 | replace Q15 := bx_f Q15 | replace Q15 := be_t Q15 | replace Q15 := be_f Q15)
               first
                | (exfalso; omega)
                | skip
                  refine cd_seq ?_
                  refine cd_region ?_
                  refine st_val (ro_eql rfl rfl) ?_
                  refine st_val (ro_assign (v := .bool _) rfl) ?_
                  refine st_nil ?_
                  refine nx_then ?_
                  refine cd_cond rfl (fun Q17 => ?_) (fun Q17 => ?_)
                  · (try with_reducible first | replace Q17 := of_decide_eq_true Q17 | replace Q17 := of_decide_eq_false Q17 | replace Q17 := bn_t Q17 | replace Q17 := bn_f Q17)
                    (try with_reducible first | replace Q17 := of_decide_eq_true Q17 | replace Q17 := of_decide_eq_false Q17 | replace Q17 := bx_t Q17 | replace Q17 := bx_f Q17 | replace Q17 := be_t Q17 | replace Q17 := be_f Q17)
                    first
                     | (exfalso; omega)
                     | skip
                       refine cd_region ?_
                       refine st_val (ro_move (v := .slice _ _ _) rfl) ?_
                       refine st_val (ro_move (v := .int _ _) rfl) ?_
                       refine st_val (ro_indexAddr0 (i := k) NetOnce_e28 rfl rfl (by omega)) ?_
                       refine st_put (v := .int _ _) NetOnce_z3 rfl rfl rfl (hW36) (by simp; have := hI.2.2.1; omega) ?_
                       intro w18 O18 P18
                       refine st_nil ?_
                       refine nx_block ?_
                       refine nx_block ?_
                       refine nx_cut ((A36, c36, W.set k 2)) trivial (by (iterate 24 refine agr_cons rfl ?_); exact agr_rfl) ?_
                       exact ⟨by unfold numOf; rw [if_neg (by assumption), if_neg (by assumption), if_pos (by assumption)], by rw [← arr_set]; exact P18, hQ36.only O18 (by omega), hn36.only O18 hW36 hb20 (by decide), ((hK36.from_ hB (Nat.le_refl _)).only O18 (hg20))⟩
                  · (try with_reducible first | replace Q17 := of_decide_eq_true Q17 | replace Q17 := of_decide_eq_false Q17 | replace Q17 := bn_t Q17 | replace Q17 := bn_f Q17)
                    (try with_reducible first | replace Q17 := of_decide_eq_true Q17 | replace Q17 := of_decide_eq_false Q17 | replace Q17 := bx_t Q17 | replace Q17 := bx_f Q17 | replace Q17 := be_t Q17 | replace Q17 := be_f Q17)
                    first
                     | (exfalso; omega)
                     | skip
                       refine cd_skip ?_
                       refine nx_block ?_
                       refine nx_block ?_
                       refine nx_cut ((A36, c36, W)) trivial (by (iterate 21 refine agr_cons rfl ?_); exact agr_rfl) ?_
                       exact ⟨by unfold numOf; rw [if_neg (by assumption), if_neg (by assumption), if_neg (by assumption)]; exact (set_same (invP_self hI hkm)).symm, hW36, hQ36, hn36, (hK36.from_ hB (Nat.le_refl _))⟩
      · rintro ⟨A36, c36, W'⟩ ρ19 w19 ⟨hWe, hW', hQ', hn36', hB⟩
        refine cd_region ?_
        refine st_val (ro_move (v := .int _ _) rfl) ?_
        refine st_val (ro_addN (b := 1) rfl rfl (by omega)) ?_
        refine st_val (ro_assign (v := .int _ _) rfl) ?_
        refine st_nil ?_
        refine nx_cut ((k + 1, A36, c36, putAll (mK 2 (k : Nat)) (timesOf 100 (X k).pk) L, W')) ⟨(by first | rfl | (refine int_eq ?_; omega)), trivial⟩ (by (iterate 64 refine agr_cons rfl ?_); exact agr_rfl) ⟨?_, ?_⟩
        · exact ⟨by omega, hn36', by rw [hWe]; exact invP_step hI hkm hm60 _, hW', hQ', hB⟩
        · show m - (k + 1) < m - k; omega
    · (try with_reducible first | replace Q7 := of_decide_eq_true Q7 | replace Q7 := of_decide_eq_false Q7 | replace Q7 := bn_t Q7 | replace Q7 := bn_f Q7)
      (try with_reducible first | replace Q7 := of_decide_eq_true Q7 | replace Q7 := of_decide_eq_false Q7 | replace Q7 := bx_t Q7 | replace Q7 := bx_f Q7 | replace Q7 := be_t Q7 | replace Q7 := be_f Q7)
      have hkm2 : m = k := by omega
      subst hkm2
      refine cd_exit ?_
      refine ex_then ?_
      refine ex_then ?_
      refine ex_block ?_
      refine nx_then ?_
      refine cd_seq ?_
      refine cd_seq ?_
      refine cd_region ?_
      refine st_val (ro_move (v := .pointer _) rfl) ?_
      refine st_call NetOnce_k9 (take_n w.heap.size b A' c' L _ hn (by have := hI.2.1; omega) hI.1 100 0 (due_none fun p hp => by have := (hI.2.2.2.2 p hp).2.2.2.1; omega)) ?_
      rintro v55 w20 ⟨⟨A53, c53, rfl, ho55⟩, ⟨A54, c54, hn54⟩, hK55⟩
      have hW54 := hK55.blk _ _ _ hb20 (by decide) hW
      have hQ54 := hK55.blk _ _ _ hb22 (by decide) hQ
      rw [List.drop_zero] at hn54
      refine st_val (ro_len NetOnce_l27 rfl) ?_
      refine st_val (ro_bf (ro_gtr rfl rfl) (by decide)) ?_
      refine st_nil ?_
      refine nx_then ?_
      refine cd_condF rfl ?_
      refine cd_skip ?_
      refine nx_then ?_
      refine cd_seq ?_
      refine cd_seq ?_
      refine cd_region ?_
      refine st_val (ro_assign (v := .int _ _) rfl) ?_
      refine st_nil ?_
      refine nx_then ?_
      refine cd_block ?_
      refine cd_loop (G := Nat × Option Addr × Nat × Pars × List Int) [2, 9, 10, 58, 59, 60, 61, 62, 63, 64, 65, 66, 67, 68, 69, 70, 71, 72, 73, 74, 75, 76, 77, 78, 79, 80, 81, 82, 83, 84, 85, 86, 87, 88, 89, 90, 91, 92, 93, 94, 95, 96, 97, 98, 99, 100, 101, 102, 103] (fun (T, _, _, _, _) => [(8, .int .i64 (T : Nat))]) (fun (T, A', c', L, Q) w' => 101 ≤ T ∧ T ≤ 111 ∧ NetAt w' w.heap.size b A' c' L ∧ InvT m (T : Nat) L W Q ∧ Blk w' b20 3 (W.map iV).toArray ∧ Blk w' b22 3 (Q.map iV).toArray ∧ From w w') (fun (T, _, _, _, _) => 111 - T) ((101, A54, c54, L, List.replicate m 0)) ⟨rfl, trivial⟩ ?_ ?_
      · exact ⟨by omega, by omega, hn54, invT_start hI hm60, hW54, hQ54, (hK55.from_ hB (Nat.le_refl _))⟩
      rintro ⟨T, A', c', L2, Q⟩ ρ21 w21 ⟨hT1, hT2, hn2, hIT, hW2, hQ2, hB⟩
      refine cd_seq ?_
      refine cd_seq ?_
      refine cd_region ?_
      refine st_val (ro_move (v := .int _ _) rfl) ?_
      refine st_val (ro_leq rfl rfl) ?_
      refine st_nil ?_
      refine nx_then ?_
      refine cd_cond rfl (fun Q22 => ?_) (fun Q22 => ?_)
      · (try with_reducible first | replace Q22 := of_decide_eq_true Q22 | replace Q22 := of_decide_eq_false Q22 | replace Q22 := bn_t Q22 | replace Q22 := bn_f Q22)
        (try with_reducible first | replace Q22 := of_decide_eq_true Q22 | replace Q22 := of_decide_eq_false Q22 | replace Q22 := bx_t Q22 | replace Q22 := bx_f Q22 | replace Q22 := be_t Q22 | replace Q22 := be_f Q22)
        refine cd_skip ?_
        refine nx_then ?_
        refine cd_seq ?_
        refine cd_block ?_
        refine cd_seq ?_
        refine cd_region ?_
        refine st_val (ro_move (v := .pointer _) rfl) ?_
        refine st_val (ro_move (v := .int _ _) rfl) ?_
        refine st_call NetOnce_k9 (take_n w.heap.size b A' c' L2 _ hn2 (by have := hIT.2.1; omega) hIT.1 (T : Nat) _ rfl) ?_
        rintro v64 w23 ⟨⟨A64, c64, rfl, ho64⟩, ⟨A65, c65, hn64⟩, hK64⟩
        have hdu : dueN L2 (T : Nat) ≤ 120 := Nat.le_trans List.countP_le_length hIT.2.1
        have hW64 := hK64.blk _ _ _ hb20 (by decide) hW2
        have hQ64 := hK64.blk _ _ _ hb22 (by decide) hQ2
        obtain ⟨XS, hXS⟩ : ∃ XS : List Msg, XS = (L2.take (dueN L2 (T : Nat))).map (·.1) := ⟨_, rfl⟩
        rw [← hXS] at ho64
        have hr64 := (row_own ho64).2
        have hXl : XS.length = dueN L2 (T : Nat) := (row_own ho64).1
        have hXm : ∀ i (h : i < XS.length), XS[i].k = 2 ∧ 0 ≤ XS[i].tm ∧ XS[i].tm < m := fun i h => by
          have hx : XS[i] ∈ (L2.take (dueN L2 (T : Nat))).map (·.1) := by rw [← hXS]; exact List.getElem_mem h
          obtain ⟨p, hp, hpx⟩ := List.mem_map.1 hx
          have := hIT.2.2.2.2.2 p (List.mem_of_mem_take hp)
          rw [← hpx]
          omega
        refine st_val (ro_assign (v := .slice _ _ _) rfl) ?_
        refine st_nil ?_
        refine nx_then ?_
        refine cd_seq ?_
        refine cd_region ?_
        refine st_val (ro_assign (v := .int _ _) rfl) ?_
        refine st_nil ?_
        refine nx_then ?_
        refine cd_block ?_
        refine cd_loop (G := Nat × List Int) [2, 65, 66, 67, 68, 69, 70, 71, 72, 73, 74, 75, 76, 77, 78, 79, 80, 81, 82, 83, 84, 85, 86, 87, 88, 89, 90, 91, 92, 93, 94, 95, 96, 97, 98, 99, 100, 101, 102, 103] (fun (i, _) => [(10, .int .i64 (i : Nat))]) (fun (i, Q') w' => i ≤ dueN L2 (T : Nat) ∧ InvC Q Q' XS i ∧ NetAt w' w.heap.size b A65 c65 (L2.drop (dueN L2 (T : Nat))) ∧ RowK 13 msgV w' A64 XS ∧ Blk w' b20 3 (W.map iV).toArray ∧ Blk w' b22 3 (Q'.map iV).toArray ∧ From w w') (fun (i, _) => dueN L2 (T : Nat) - i) ((0, Q)) ⟨rfl, trivial⟩ ?_ ?_
        · exact ⟨Nat.zero_le _, ⟨rfl, fun j h h2 => by simp [cntM]⟩, hn64, hr64, hW64, hQ64, (hK64.from_ hB (Nat.le_refl _))⟩
        rintro ⟨i, Q'⟩ ρ24 w24 ⟨hi, hIC, hn3, hr3, hW3, hQ3, hB⟩
        refine cd_seq ?_
        refine cd_seq ?_
        refine cd_region ?_
        refine st_val (ro_move (v := .int _ _) rfl) ?_
        refine st_val (ro_move (v := .slice _ _ _) rfl) ?_
        refine st_val (ro_len NetOnce_l27 rfl) ?_
        refine st_val (ro_lss rfl rfl) ?_
        refine st_nil ?_
        refine nx_then ?_
        refine cd_cond rfl (fun Q25 => ?_) (fun Q25 => ?_)
        · (try with_reducible first | replace Q25 := of_decide_eq_true Q25 | replace Q25 := of_decide_eq_false Q25 | replace Q25 := bn_t Q25 | replace Q25 := bn_f Q25)
          (try with_reducible first | replace Q25 := of_decide_eq_true Q25 | replace Q25 := of_decide_eq_false Q25 | replace Q25 := bx_t Q25 | replace Q25 := bx_f Q25 | replace Q25 := be_t Q25 | replace Q25 := be_f Q25)
          have hiX : i < XS.length := by omega
          obtain ⟨bx, ox, hA64, hcx⟩ := hr3 (by omega)
          subst hA64
          have hvx := hcx i hiX
          obtain ⟨hkd, ht0, ht1⟩ := hXm i hiX
          obtain ⟨t, htm⟩ : ∃ t : Nat, (XS[i]'hiX).tm = (t : Nat) := ⟨_, (Int.toNat_of_nonneg ht0).symm⟩
          have htq : t < Q'.length := by have a := hIC.1; have b := hIT.2.2.2.1; omega
          have hqb := invC_bound hIT hIC (by omega) htq
          refine cd_skip ?_
          refine nx_then ?_
          refine cd_seq ?_
          refine cd_block ?_
          refine cd_seq ?_
          refine cd_seq ?_
          refine cd_region ?_
          refine st_val (ro_move (v := .slice _ _ _) rfl) ?_
          refine st_val (ro_move (v := .int _ _) rfl) ?_
          refine st_val (ro_indexAddrN NetOnce_e27 rfl rfl (by omega)) ?_
          refine st_val (ro_fieldAddr NetOnce_f33_3 rfl) ?_
          refine st_val (ro_eq (ro_load NetOnce_g3 rfl (hvx 3 _ rfl)) (int_eq htm)) ?_
          refine st_val (ro_bf (ro_lss rfl rfl) (decide_eq_false (by omega))) ?_
          refine st_val (ro_move (v := .bool _) rfl) ?_
          refine st_unguard rfl ?_
          refine st_val (ro_move (v := .slice _ _ _) rfl) ?_
          refine st_unguard rfl ?_
          refine st_val (ro_move (v := .int _ _) rfl) ?_
          refine st_unguard rfl ?_
          refine st_val (ro_indexAddrN NetOnce_e27 rfl rfl (by omega)) ?_
          refine st_unguard rfl ?_
          refine st_val (ro_fieldAddr NetOnce_f33_3 rfl) ?_
          refine st_unguard rfl ?_
          refine st_val (ro_eq (ro_load NetOnce_g3 rfl (hvx 3 _ rfl)) (int_eq htm)) ?_
          refine st_unguard rfl ?_
          refine st_val (ro_move (v := .int _ _) rfl) ?_
          refine st_unguard rfl ?_
          refine st_val (ro_bf (ro_geq rfl rfl) (decide_eq_false (by omega))) ?_
          refine st_val (ro_pickF (v := .bool _) rfl rfl) ?_
          refine st_val (ro_move (v := .bool _) rfl) ?_
          refine st_unguard rfl ?_
          refine st_val (ro_move (v := .slice _ _ _) rfl) ?_
          refine st_unguard rfl ?_
          refine st_val (ro_move (v := .int _ _) rfl) ?_
          refine st_unguard rfl ?_
          refine st_val (ro_indexAddrN NetOnce_e27 rfl rfl (by omega)) ?_
          refine st_unguard rfl ?_
          refine st_val (ro_fieldAddr NetOnce_f33_0 rfl) ?_
          refine st_unguard rfl ?_
          refine st_val (ro_eq (ro_load NetOnce_g3 rfl (hvx 0 _ rfl)) (int_eq hkd)) ?_
          refine st_unguard rfl ?_
          refine st_val (ro_bf (ro_neq rfl rfl) rfl) ?_
          refine st_val (ro_pickF (v := .bool _) rfl rfl) ?_
          refine st_nil ?_
          refine nx_then ?_
          refine cd_condF rfl ?_
          refine cd_skip ?_
          refine nx_then ?_
          refine cd_region ?_
          refine st_val (ro_move (v := .slice _ _ _) rfl) ?_
          refine st_val (ro_move (v := .slice _ _ _) rfl) ?_
          refine st_val (ro_move (v := .int _ _) rfl) ?_
          refine st_val (ro_indexAddrN NetOnce_e27 rfl rfl (by omega)) ?_
          refine st_val (ro_fieldAddr NetOnce_f33_3 rfl) ?_
          refine st_val (ro_eq (ro_load NetOnce_g3 rfl (hvx 3 _ rfl)) (int_eq htm)) ?_
          refine st_val (ro_indexAddr0 (i := t) NetOnce_e28 rfl rfl (by omega)) ?_
          refine st_val (ro_load NetOnce_g3 rfl (by exact hQ3.rd t (arr_get t htq))) ?_
          refine st_val (ro_add64 rfl rfl (by omega)) ?_
          refine st_val (ro_indexAddr0 (i := t) NetOnce_e28 rfl rfl (by omega)) ?_
          refine st_put (v := .int _ _) NetOnce_z3 rfl rfl rfl (hQ3) (by simp; omega) ?_
          intro w26 O30 P30
          refine st_nil ?_
          refine nx_block ?_
          refine nx_then ?_
          refine cd_region ?_
          refine st_val (ro_move (v := .int _ _) rfl) ?_
          refine st_val (ro_addN (b := 1) rfl rfl (by omega)) ?_
          refine st_val (ro_assign (v := .int _ _) rfl) ?_
          refine st_nil ?_
          refine nx_cut ((i + 1, Q'.set t (Q'[t]'htq + 1))) ⟨(by first | rfl | (refine int_eq ?_; omega)), trivial⟩ (by (iterate 81 refine agr_cons rfl ?_); exact agr_rfl) ⟨?_, ?_⟩
          · exact ⟨by omega, invC_step hIC hiX htm htq, hn3.only O30 hQ3 hb22 (by decide), rowk_only hr3 O30 (fun b' o' e => by cases e; exact own_off ho64 hQ64 (by decide) _ rfl), hW3.only O30 (by omega), by rw [← arr_set]; exact P30, (hB.only O30 (hg22))⟩
          · show dueN L2 (T : Nat) - (i + 1) < dueN L2 (T : Nat) - i; omega
        · (try with_reducible first | replace Q25 := of_decide_eq_true Q25 | replace Q25 := of_decide_eq_false Q25 | replace Q25 := bn_t Q25 | replace Q25 := bn_f Q25)
          (try with_reducible first | replace Q25 := of_decide_eq_true Q25 | replace Q25 := of_decide_eq_false Q25 | replace Q25 := bx_t Q25 | replace Q25 := bx_f Q25 | replace Q25 := be_t Q25 | replace Q25 := be_f Q25)
          refine cd_exit ?_
          refine ex_then ?_
          refine ex_then ?_
          refine ex_block ?_
          refine nx_block ?_
          refine nx_then ?_
          refine cd_region ?_
          refine st_val (ro_move (v := .int _ _) rfl) ?_
          refine st_val (ro_addN (b := 1) rfl rfl (by omega)) ?_
          refine st_val (ro_assign (v := .int _ _) rfl) ?_
          refine st_nil ?_
          refine nx_cut ((T + 1, A65, c65, L2.drop (dueN L2 (T : Nat)), Q')) ⟨(by first | rfl | (refine int_eq ?_; omega)), trivial⟩ (by (iterate 105 refine agr_cons rfl ?_); exact agr_rfl) ⟨?_, ?_⟩
          · refine ⟨by omega, by omega, hn3, ?_, hW3, hQ3, hB⟩
            obtain rfl : i = dueN L2 (T : Nat) := by omega
            have hl3 := hIC.1
            have := invT_drop hIT (Q' := Q') (by rw [hl3]; exact hIT.2.2.2.1) (fun j h h' => by have := hIC.2 j h h'; rwa [List.take_of_length_le (by omega), hXS] at this)
            exact this
          · show 111 - (T + 1) < 111 - T; omega
      · (try with_reducible first | replace Q22 := of_decide_eq_true Q22 | replace Q22 := of_decide_eq_false Q22 | replace Q22 := bn_t Q22 | replace Q22 := bn_f Q22)
        (try with_reducible first | replace Q22 := of_decide_eq_true Q22 | replace Q22 := of_decide_eq_false Q22 | replace Q22 := bx_t Q22 | replace Q22 := bx_f Q22 | replace Q22 := be_t Q22 | replace Q22 := be_f Q22)
        obtain ⟨hL2, hWQ⟩ := invT_end hIT (by omega)
        refine cd_exit ?_
        refine ex_then ?_
        refine ex_then ?_
        refine ex_block ?_
        refine nx_then ?_
        refine cd_seq ?_
        refine cd_region ?_
        refine st_val (ro_move (v := .slice _ _ _) rfl) ?_
        refine st_val (ro_move (v := .slice _ _ _) rfl) ?_
        refine st_call NetOnce_k21 (eqNumbers_n _ _ m m m W Q _ hW2 hQ2 hIT.2.2.1 hWQ hm60) ?_
        rintro v106 w27 ⟨rfl, E106⟩
        refine st_val (ro_move (v := .bool _) rfl) ?_
        refine st_unguard rfl ?_
        refine st_val (ro_move (v := .pointer _) rfl) ?_
        refine st_unguard rfl ?_
        refine st_call NetOnce_k18 (count_n w.heap.size b A' c' L2 _ (hn2.from_ (From.rfl_.next E106)) 0 (by rw [hL2]; rfl)) ?_
        rintro v109 w28 ⟨rfl, rfl⟩
        refine st_unguard rfl ?_
        refine st_val (ro_bt (ro_eql rfl rfl) rfl) ?_
        refine st_val (ro_pickT (v := .bool _) rfl rfl) ?_
        refine st_val (ro_move (v := .bool _) rfl) ?_
        refine st_unguard rfl ?_
        refine st_call NetOnce_k19 (wakes_any _) ?_
        rintro v113 w29 ⟨rfl, E113⟩
        refine st_val (ro_pickT (v := .bool _) rfl rfl) ?_
        refine st_val (ro_assign (v := .bool _) rfl) ?_
        refine st_nil ?_
        refine nx_then ?_
        refine cd_ret ?_
        refine res1 (v := .bool _) rfl rfl ?_
        first
          | exact ⟨rfl, ((hB.next E106).next E113)⟩
          | (exfalso; simp_all; done)
theorem netOnce_arg (A : Option Addr) (c : Nat) (xs : List actT.den) (w : World) (hb : xs.length * actT.bytes ≤ 140737488351232) (h : 0 < xs.length → ∃ b o, A = some ⟨b, o, none⟩ ∧ ∀ (i : Nat) (hi : i < xs.length), actT.At w (fun j => w.cell? ⟨b, o + i * actT.size + j, none⟩) xs[i]) :
    Rt Try.prog 4 [.slice A xs.length c] w fun v w' => v = .bool true ∧ From w w' := by
  obtain ⟨X, hX⟩ := at_acts h
  exact netOnce_law A c xs.length X w hX (Nat.le_trans (Nat.le_mul_of_pos_right _ (by decide : 0 < actT.bytes)) hb)
set_option maxRecDepth 100000 in
theorem NetOnce_lifted (os : Os) (started : os.Started) (H : Type) (enc : TypeId × Value → H) :
    ReturnsInHanded {} Try.checked os 4 .any (Rows.netOnceSpec.pre6 enc Try.prog Try.f4 Rows.netOnceRow.domain false) (Rows.netOnceSpec.post enc Try.prog Try.f4 false true false false) := by
  refine returnsInHanded_of_change_sized (C := Try.checked) Try.own started (by kernel_rfl) Try.func4
    (ChangeSpec.witness6 (enc := enc) (C := Try.checked) false ⟨#[], #[.slice none 0 0], []⟩ 8 (by kernel_rfl) (by kernel_rfl) (by kernel_rfl) (by kernel_rfl)) ?_
  intro W base args ds gs before hval hW _ hsz _
  exact law_step 4 Try.f4 22 4 Rows.netOnceSpec Try.params4 (by kernel_rfl) Try.underlying4 rfl (fun _ => rfl) (by kernel_rfl) (of_decide_eq_true (by kernel_rfl)) (walk_sl actT (by kernel_rfl) netOnce_arg) W base args ds gs before hval hW hsz

theorem NetOnce_holds : Rows.NetOnceSaid :=
  OpenClaim.holds_of_wide 4 Try.f4 rfl rfl rfl rfl rfl rfl rfl ⟨rfl, rfl, rfl, rfl, rfl⟩ rfl rfl rfl rfl rfl (by kernel_rfl) Try.func4 (by kernel_rfl)
    (of_decide_eq_true (by kernel_rfl)) (by unfold Func.isWrapper; first | (rw [if_pos (by decide +kernel)]; kernel_rfl) | (rw [if_neg (by decide +kernel)]; exact ⟨rfl, rfl⟩))
    (fun os started H enc _ => NetOnce_lifted os started H enc)
#print axioms NetOnce_holds

end Go.Proofs.Ythakmhdliginoaa
