/- net: Put, Take, Clear, New. -/
import Derived.Test.YthakmhdliginoaaNetPut
namespace Go.Proofs.Ythakmhdliginoaa
open Go.RowKit
open Go.ChangeShapes Go.WideShapes Go.ChangeAt
theorem NetTake_q27 : litQ Try.prog 27 = some (33, 13, 128, (.agg #[.int .i64 0, .int .i64 0, .int .i64 0, .int .i64 0, .int .i64 0, .int .i64 0, .int .i64 0, .int .i64 0, .bool false, .slice none 0 0, .int .i64 0, .string ⟨#[]⟩, .bool false] : Value)) := by kernel_rfl
theorem NetTake_e47 : elemQ Try.prog 47 = some (53, 14) := by kernel_rfl
theorem NetTake_k27 : callable Try.prog 27 = true := by kernel_rfl
theorem NetTake_g33 : aggQ Try.prog 33 = some true := by kernel_rfl
theorem NetTake_z33 : sizeQ Try.prog 33 = some 13 := by kernel_rfl
theorem NetTake_q28 : litQ Try.prog 28 = some (3, 1, 8, (.int .i64 0)) := by kernel_rfl
theorem NetTake_k28 : callable Try.prog 28 = true := by kernel_rfl
theorem NetTake_f49_0 : fieldQ Try.prog 49 0 = some 0 := by kernel_rfl
theorem NetTake_z47 : sizeQ Try.prog 47 = some 1 := by kernel_rfl
theorem NetTake_b49_ : Try.prog.built 49 [] = some #[.slice none 0 0] := by kernel_rfl
theorem NetTake_g53 : aggQ Try.prog 53 = some true := by kernel_rfl
theorem NetTake_z53 : sizeQ Try.prog 53 = some 14 := by kernel_rfl
theorem NetTake_k23 : callable Try.prog 23 = true := by kernel_rfl
theorem NetTake_g47 : aggQ Try.prog 47 = some false := by kernel_rfl
theorem NetTake_l47 : (elemQ Try.prog 47).isSome = true := by kernel_rfl
theorem NetTake_o53 : zeroQ Try.prog 53 = some (.agg #[.int .i64 0, .int .i64 0, .int .i64 0, .int .i64 0, .int .i64 0, .int .i64 0, .int .i64 0, .int .i64 0, .bool false, .slice none 0 0, .int .i64 0, .string ⟨#[]⟩, .bool false, .int .i64 0]) := by kernel_rfl
theorem NetTake_f53_0 : fieldQ Try.prog 53 0 = some 0 := by kernel_rfl
theorem NetTake_k24 : callable Try.prog 24 = true := by kernel_rfl
def timesOf (now pick : Int) : List Int := if pick % 4 = 0 then [now + 1] else if pick % 4 = 2 then [now + 2 + pick / 4 % 8] else if pick % 4 = 3 then [now + 1, now + 2 + pick / 4 % 8] else []
theorem fillR (x : Msg) : Instr.fill (fun i => some (i * 13, 13)) ((Array.range (1 * 13)).map ((.agg #[.int .i64 0, .int .i64 0, .int .i64 0, .int .i64 0, .int .i64 0, .int .i64 0, .int .i64 0, .int .i64 0, .bool false, .slice none 0 0, .int .i64 0, .string ⟨#[]⟩, .bool false] : Value).cells[· % (.agg #[.int .i64 0, .int .i64 0, .int .i64 0, .int .i64 0, .int .i64 0, .int .i64 0, .int .i64 0, .int .i64 0, .bool false, .slice none 0 0, .int .i64 0, .string ⟨#[]⟩, .bool false] : Value).cells.size]!)) [(0, .agg (msgV x).toArray)] = some (msgV x).toArray := by
  first
    | kernel_rfl
    | rfl
theorem par_msg {w : World} {b t : Nat} {p : Msg × Int} (h : Blk w b t (parV p).toArray) : w.rangeAt b (0 + 0) (msgV p.1) := h.range 0 _ fun j v hv => by
  match j, hv with
  | 0, hv => exact hv
  | 1, hv => exact hv
  | 2, hv => exact hv
  | 3, hv => exact hv
  | 4, hv => exact hv
  | 5, hv => exact hv
  | 6, hv => exact hv
  | 7, hv => exact hv
  | 8, hv => exact hv
  | 9, hv => exact hv
  | 10, hv => exact hv
  | 11, hv => exact hv
  | 12, hv => exact hv
  | j + 13, hv => simp [msgV] at hv
theorem del_rt (base : Nat) (A : Option Addr) (c n i : Nat) (xs : List Value) (w : World) (ho : w.ownsRow base 53 14 (.slice A n c) n xs) (hi : i ≤ n) (h1 : ∀ u ∈ xs, u.oneCell' = true) (hl : n ≤ 100000000) :
    Rt Try.prog 24 [.slice A n c, .int .i64 0, .int .i64 (i : Nat)] w fun v w' => (∃ A' c', v = .slice A' (n - i) c' ∧ w'.ownsRow base 53 14 (.slice A' (n - i) c') (n - i) (xs.drop (i * 14))) ∧ w.grownBy w' (A.map (·.block)) := by
  rcases Nat.eq_zero_or_pos i with rfl | h0
  · have hc9 : c ≤ 9223372036854775807 := by
      rcases ho.2 with ⟨h0, _⟩ | ⟨g, cap, cur, hv, _, _, _, h4, _⟩
      · simp only [Value.slice.injEq] at h0
        omega
      · simp only [Value.slice.injEq] at hv
        unfold maxLen at h4
        omega
    refine (delete_none A c n w (own_cap ho) hc9).mono fun v w' ⟨hv, hw⟩ => ?_
    subst hw
    exact ⟨⟨A, c, hv, by simpa using ho⟩, World.grownBy.refl _ _⟩
  · refine (delete_rt base A c n 0 i xs w ho h0 hi h1 (by omega)).mono fun v w' ⟨⟨A', c', hv, ho'⟩, hg⟩ => ⟨⟨A', c', ?_, ?_⟩, hg⟩
    · simpa using hv
    · simpa using ho'
theorem own_two {w : World} {base base2 e e2 s s2 n m c c2 : Nat} {A B : Option Addr} {xs ys : List Value} (h : w.ownsRow base e s (.slice A n c) n xs) (k : w.ownsRow base2 e2 s2 (.slice B m c2) m ys) (hne : e ≠ e2) : (Value.slice A n c).ownBlock = none ∨ (Value.slice A n c).ownBlock ≠ B.map (·.block) := by
  rcases h.2 with ⟨h0, _⟩ | ⟨g, cap, cur, hv, hg, hh, r⟩
  · exact .inl (by rw [h0]; rfl)
  · refine .inr fun e0 => ?_
    have hb : Blk w g e cur := hh
    have := own_off k hb hne g (by rw [← e0, hv]; rfl)
    exact this rfl
theorem take_flatR {L : Pars} {k : Nat} (h : k < L.length) : ((L.take k).map (·.1)).flatMap msgV ++ msgV L[k].1 = ((L.take (k + 1)).map (·.1)).flatMap msgV := by
  rw [List.take_succ_eq_append_getElem h, List.map_append, List.flatMap_append]
  simp
theorem drop_sorted {L : Pars} (hs : Sorted L) (k : Nat) : Sorted (L.drop k) := by
  rw [sorted_pair] at hs ⊢
  exact hs.sublist (List.drop_sublist k L)
set_option maxRecDepth 100000 in
set_option maxHeartbeats 400000 in
theorem put_rt (base b : Nat) (A : Option Addr) (c : Nat) (L : Pars) (w : World) (hn : NetAt w base b A c L) (hl : L.length ≤ 4096) (hs : Sorted L) (x : Msg) (now pick : Int) (hnow : 0 ≤ now ∧ now ≤ 4611686018427387904) (hp : -9223372036854775808 ≤ pick ∧ pick ≤ 9223372036854775807) :
    Rt Try.prog 15 [.pointer (some ⟨b, 0, none⟩), .agg (msgV x).toArray, .int .i64 now, .int .i64 pick] w (fun v w' => v = .tuple #[] ∧ (∃ A' c', NetAt w' base b A' c' (putAll x (timesOf now pick) L)) ∧ Kp base b w w') := by
  have hd4 : -9223372036854775808 ≤ pick / 4 ∧ pick / 4 ≤ 9223372036854775807 := by omega
  have hd8 : 0 ≤ pick / 4 % 8 ∧ pick / 4 % 8 < 8 := by omega
  have hd9 : 0 ≤ pick % 4 ∧ pick % 4 < 4 := by omega
  refine enter (n := 53) Try.func15 rfl rfl rfl ?_
  refine cd_seq ?_
  refine cd_region ?_
  refine st_box (v := .agg _) rfl ?_
  intro b5 w1 E5 hb5 hk5
  refine st_nil ?_
  refine nx_then ?_
  refine cd_seq ?_
  refine cd_region ?_
  refine st_val (ro_move (v := .int _ _) rfl) ?_
  refine st_call NetTake_k27 (divide_rt pick 4 _ (.inl rfl) hp) ?_
  rintro v16 w2 ⟨rfl, E16⟩
  refine st_val (ro_move (v := .tuple _) rfl) ?_
  refine st_val (ro_extract rfl rfl) ?_
  refine st_val (ro_extract rfl rfl) ?_
  refine st_val (ro_assign (v := .int _ _) rfl) ?_
  refine st_val (ro_assign (v := .int _ _) rfl) ?_
  refine st_nil ?_
  refine nx_then ?_
  refine cd_seq ?_
  refine cd_region ?_
  refine st_val (ro_move (v := .int _ _) rfl) ?_
  refine st_call NetTake_k27 (divide_rt (pick / 4) 8 _ (.inr rfl) hd4) ?_
  rintro v21 w3 ⟨rfl, E21⟩
  refine st_val (ro_move (v := .tuple _) rfl) ?_
  refine st_val (ro_extract rfl rfl) ?_
  refine st_val (ro_extract rfl rfl) ?_
  refine st_val (ro_assign (v := .int _ _) rfl) ?_
  refine st_val (ro_assign (v := .int _ _) rfl) ?_
  refine st_nil ?_
  refine nx_then ?_
  refine cd_seq ?_
  refine cd_region ?_
  refine st_val (ro_move (v := .int _ _) rfl) ?_
  refine st_val (ro_add64 rfl rfl (by omega)) ?_
  refine st_val (ro_move (v := .int _ _) rfl) ?_
  refine st_val (ro_add64 rfl rfl (by omega)) ?_
  refine st_val (ro_move (v := .int _ _) rfl) ?_
  refine st_val (ro_add64 rfl rfl (by omega)) ?_
  refine st_val (ro_assign (v := .int _ _) rfl) ?_
  refine st_val (ro_assign (v := .int _ _) rfl) ?_
  refine st_nil ?_
  refine nx_then ?_
  refine cd_seq ?_
  refine cd_region ?_
  refine st_val (ro_move (v := .int _ _) rfl) ?_
  refine st_nil ?_
  refine nx_then ?_
  refine cd_block ?_
  refine cd_seq ?_
  refine cd_region ?_
  refine st_val (ro_eql rfl rfl) ?_
  refine st_val (ro_assign (v := .bool _) rfl) ?_
  refine st_nil ?_
  refine nx_then ?_
  refine cd_cond rfl (fun Q4 => ?_) (fun Q4 => ?_)
  · (try first | replace Q4 := bn_t Q4 | replace Q4 := bn_f Q4)
    (try first | replace Q4 := bx_t Q4 | replace Q4 := bx_f Q4 | replace Q4 := be_t Q4 | replace Q4 := be_f Q4 | replace Q4 := of_decide_eq_true Q4 | replace Q4 := of_decide_eq_false Q4)
    first
     | (exfalso; first | omega | contradiction | (cases Q4; done))
     | skip
       refine cd_region ?_
       refine st_val (ro_move (v := .pointer _) rfl) ?_
       refine st_val (ro_loadA (cs := [_, _, _, _, _, _, _, _, _, _, _, _, _]) NetTake_g33 NetTake_z33 rfl (by exact (hk5.from_ ((E16.next E21))).whole)) ?_
       refine st_val (ro_move (v := .int _ _) rfl) ?_
       have hz36 : b < (w3).heap.size := Nat.lt_of_lt_of_le hn.2.1.lt (((From.rfl_.next E5).next E16).next E21).size
       have hF36 : From w w3 := (((From.rfl_.next E5).next E16).next E21)
       refine st_lit1 (v := .int _ _) NetTake_q28 rfl rfl rfl ?_
       intro b36 w5 E36 hb36 hk36
       have hgb36 : b36 ≠ b := by omega
       have hE36 := hF36.next E36
       refine st_call NetTake_k28 (send_rt base b A c L _ (hn.from_ ((((From.rfl_.next E5).next E16).next E21).next E36)) hl hs x [now + 1] b36 hk36 hgb36 (by simp)) ?_
       rintro v37 w6 ⟨rfl, ⟨A37, c37, hn37⟩, hK37⟩
       refine st_nil ?_
       refine nx_block ?_
       refine end_ret ?_
       refine res0 rfl ?_
       exact ⟨rfl, ⟨A37, c37, by unfold timesOf; rw [if_pos (by omega)]; exact hn37⟩, (Kp.of_from hE36).trans hK37⟩
  · (try first | replace Q4 := bn_t Q4 | replace Q4 := bn_f Q4)
    (try first | replace Q4 := bx_t Q4 | replace Q4 := bx_f Q4 | replace Q4 := be_t Q4 | replace Q4 := be_f Q4 | replace Q4 := of_decide_eq_true Q4 | replace Q4 := of_decide_eq_false Q4)
    first
     | (exfalso; first | omega | contradiction | (cases Q4; done))
     | skip
       refine cd_seq ?_
       refine cd_region ?_
       refine st_val (ro_eql rfl rfl) ?_
       refine st_val (ro_assign (v := .bool _) rfl) ?_
       refine st_nil ?_
       refine nx_then ?_
       refine cd_cond rfl (fun Q7 => ?_) (fun Q7 => ?_)
       · (try first | replace Q7 := bn_t Q7 | replace Q7 := bn_f Q7)
         (try first | replace Q7 := bx_t Q7 | replace Q7 := bx_f Q7 | replace Q7 := be_t Q7 | replace Q7 := be_f Q7 | replace Q7 := of_decide_eq_true Q7 | replace Q7 := of_decide_eq_false Q7)
         first
          | (exfalso; first | omega | contradiction | (cases Q7; done))
          | skip
            refine cd_region ?_
            refine st_val (ro_move (v := .pointer _) rfl) ?_
            refine st_val (ro_loadA (cs := [_, _, _, _, _, _, _, _, _, _, _, _, _]) NetTake_g33 NetTake_z33 rfl (by exact (hk5.from_ ((E16.next E21))).whole)) ?_
            refine st_val (ro_move (v := .int _ _) rfl) ?_
            have hz43 : b < (w3).heap.size := Nat.lt_of_lt_of_le hn.2.1.lt (((From.rfl_.next E5).next E16).next E21).size
            have hF43 : From w w3 := (((From.rfl_.next E5).next E16).next E21)
            refine st_lit1 (v := .int _ _) NetTake_q28 rfl rfl rfl ?_
            intro b43 w8 E43 hb43 hk43
            have hgb43 : b43 ≠ b := by omega
            have hE43 := hF43.next E43
            refine st_call NetTake_k28 (send_rt base b A c L _ (hn.from_ ((((From.rfl_.next E5).next E16).next E21).next E43)) hl hs x [now + 2 + pick / 4 % 8] b43 hk43 hgb43 (by simp)) ?_
            rintro v44 w9 ⟨rfl, ⟨A44, c44, hn44⟩, hK44⟩
            refine st_nil ?_
            refine nx_block ?_
            refine end_ret ?_
            refine res0 rfl ?_
            exact ⟨rfl, ⟨A44, c44, by unfold timesOf; rw [if_neg (by omega), if_pos (by omega)]; exact hn44⟩, (Kp.of_from hE43).trans hK44⟩
       · (try first | replace Q7 := bn_t Q7 | replace Q7 := bn_f Q7)
         (try first | replace Q7 := bx_t Q7 | replace Q7 := bx_f Q7 | replace Q7 := be_t Q7 | replace Q7 := be_f Q7 | replace Q7 := of_decide_eq_true Q7 | replace Q7 := of_decide_eq_false Q7)
         first
          | (exfalso; first | omega | contradiction | (cases Q7; done))
          | skip
            refine cd_seq ?_
            refine cd_region ?_
            refine st_val (ro_eql rfl rfl) ?_
            refine st_val (ro_assign (v := .bool _) rfl) ?_
            refine st_nil ?_
            refine nx_then ?_
            refine cd_cond rfl (fun Q10 => ?_) (fun Q10 => ?_)
            · (try first | replace Q10 := bn_t Q10 | replace Q10 := bn_f Q10)
              (try first | replace Q10 := bx_t Q10 | replace Q10 := bx_f Q10 | replace Q10 := be_t Q10 | replace Q10 := be_f Q10 | replace Q10 := of_decide_eq_true Q10 | replace Q10 := of_decide_eq_false Q10)
              first
               | (exfalso; first | omega | contradiction | (cases Q10; done))
               | skip
                 refine cd_region ?_
                 refine st_val (ro_move (v := .pointer _) rfl) ?_
                 refine st_val (ro_loadA (cs := [_, _, _, _, _, _, _, _, _, _, _, _, _]) NetTake_g33 NetTake_z33 rfl (by exact (hk5.from_ ((E16.next E21))).whole)) ?_
                 refine st_val (ro_move (v := .int _ _) rfl) ?_
                 refine st_val (ro_move (v := .int _ _) rfl) ?_
                 have hz51 : b < (w3).heap.size := Nat.lt_of_lt_of_le hn.2.1.lt (((From.rfl_.next E5).next E16).next E21).size
                 have hF51 : From w w3 := (((From.rfl_.next E5).next E16).next E21)
                 refine st_lits [.tmp 49, .tmp 50] [.int _ _, .int _ _] NetTake_q28 rfl rfl rfl rfl (by simp [Value.cells]) ?_
                 intro b51 w11 E51 hb51 hk51
                 have hgb51 : b51 ≠ b := by omega
                 have hE51 := hF51.next E51
                 refine st_call NetTake_k28 (send_rt base b A c L _ (hn.from_ ((((From.rfl_.next E5).next E16).next E21).next E51)) hl hs x [now + 1, now + 2 + pick / 4 % 8] b51 hk51 hgb51 (by simp)) ?_
                 rintro v52 w12 ⟨rfl, ⟨A52, c52, hn52⟩, hK52⟩
                 refine st_nil ?_
                 refine nx_block ?_
                 refine end_ret ?_
                 refine res0 rfl ?_
                 exact ⟨rfl, ⟨A52, c52, by unfold timesOf; rw [if_neg (by omega), if_neg (by omega), if_pos (by omega)]; exact hn52⟩, (Kp.of_from hE51).trans hK52⟩
            · (try first | replace Q10 := bn_t Q10 | replace Q10 := bn_f Q10)
              (try first | replace Q10 := bx_t Q10 | replace Q10 := bx_f Q10 | replace Q10 := be_t Q10 | replace Q10 := be_f Q10 | replace Q10 := of_decide_eq_true Q10 | replace Q10 := of_decide_eq_false Q10)
              first
               | (exfalso; first | omega | contradiction | (cases Q10; done))
               | skip
                 refine cd_skip ?_
                 refine nx_block ?_
                 refine end_ret ?_
                 refine res0 rfl ?_
                 exact ⟨rfl, ⟨A, c, by unfold timesOf; rw [if_neg (by omega), if_neg (by omega), if_neg (by omega)]; exact hn.from_ (((From.rfl_.next E5).next E16).next E21)⟩, Kp.of_from (((From.rfl_.next E5).next E16).next E21)⟩
set_option maxRecDepth 100000 in
set_option maxHeartbeats 400000 in
theorem clear_rt (base b : Nat) (A : Option Addr) (c : Nat) (L : Pars) (w : World) (hn : NetAt w base b A c L) :
    Rt Try.prog 13 [.pointer (some ⟨b, 0, none⟩)] w (fun v w' => v = .tuple #[] ∧ NetAt w' base b none 0 [] ∧ Kp base b w w') := by
  refine enter (n := 5) Try.func13 rfl rfl rfl ?_
  refine cd_region ?_
  refine st_val (ro_move (v := .pointer _) rfl) ?_
  refine st_val (ro_nilCheck rfl) ?_
  refine st_val (ro_fieldAddr NetTake_f49_0 rfl) ?_
  refine st_put (v := .slice _ _ _) NetTake_z47 rfl rfl rfl (hn.2.1) (by show 0 < 1; decide) ?_
  intro w1 O0 P0
  refine st_nil ?_
  refine end_ret ?_
  refine res0 rfl ?_
  exact ⟨rfl, ⟨hn.1, P0, World.ownsRow_nil _ _ _ _⟩, Kp.of_only O0 hn.1⟩
set_option maxRecDepth 100000 in
set_option maxHeartbeats 400000 in
theorem new_rt (w : World) :
    Rt Try.prog 7 [] w (fun v w' => (∃ b, v = .pointer (some ⟨b, 0, none⟩) ∧ NetAt w' w.heap.size b none 0 []) ∧ From w w') := by
  refine enter (n := 3) Try.func7 rfl rfl rfl ?_
  refine cd_seq ?_
  refine cd_region ?_
  refine st_val (ro_assign (v := .pointer _) rfl) ?_
  refine st_nil ?_
  refine nx_then ?_
  refine cd_seq ?_
  refine cd_region ?_
  refine st_val (ro_build (l := []) (NetTake_b49_)) ?_
  refine st_box (v := .agg _) rfl ?_
  intro b2 w1 E2 hb2 hk2
  refine st_val (ro_assign (v := .pointer _) rfl) ?_
  refine st_nil ?_
  refine nx_then ?_
  refine cd_ret ?_
  refine res1 (v := .pointer _) rfl rfl ?_
  exact ⟨⟨b2, rfl, Nat.le_of_eq hb2.symm, hk2, World.ownsRow_nil _ _ _ _⟩, (From.rfl_.next E2)⟩
set_option maxRecDepth 100000 in
set_option maxHeartbeats 2000000 in
theorem take_rt (base b : Nat) (A : Option Addr) (c : Nat) (L : Pars) (w : World) (hn : NetAt w base b A c L) (hl : L.length ≤ 4096) (hs : Sorted L) (now : Int) :
    Rt Try.prog 9 [.pointer (some ⟨b, 0, none⟩), .int .i64 now] w (fun v w' => (∃ A' c', v = .slice A' (dueN L now) c' ∧ w'.ownsRow w.heap.size 33 13 (.slice A' (dueN L now) c') (dueN L now) (((L.take (dueN L now)).map (·.1)).flatMap msgV)) ∧ (∃ A' c', NetAt w' base b A' c' (L.drop (dueN L now))) ∧ Kp base b w w') := by
  refine enter (n := 39) Try.func9 rfl rfl rfl ?_
  refine cd_seq ?_
  refine cd_region ?_
  refine st_val (ro_assign (v := .slice _ _ _) rfl) ?_
  refine st_nil ?_
  refine nx_then ?_
  refine cd_seq ?_
  refine cd_region ?_
  refine st_val (ro_move (v := .pointer _) rfl) ?_
  refine st_val (ro_move (v := .int _ _) rfl) ?_
  refine st_call NetTake_k23 (due_rt base b A c L _ (hn.from_ From.rfl_) (by omega) now hs) ?_
  rintro v11 w1 ⟨⟨i, rfl, hcut⟩, E11⟩
  obtain hdu := cut_due hcut
  have hiL := hcut.1
  have hcp := own_cap hn.2.2
  refine st_val (ro_assign (v := .int _ _) rfl) ?_
  refine st_nil ?_
  refine nx_then ?_
  refine cd_seq ?_
  refine cd_region ?_
  refine st_val (ro_assign (v := .slice _ _ _) rfl) ?_
  refine st_nil ?_
  refine nx_then ?_
  refine cd_seq ?_
  refine cd_seq ?_
  refine cd_region ?_
  refine st_val (ro_move (v := .pointer _) rfl) ?_
  refine st_val (ro_nilCheck rfl) ?_
  refine st_val (ro_fieldAddr NetTake_f49_0 rfl) ?_
  refine st_val (ro_load NetTake_g47 rfl (by exact (hn.from_ (From.rfl_.next E11)).2.1.rd 0 rfl)) ?_
  refine st_val (ro_move (v := .int _ _) rfl) ?_
  refine st_val (ro_eq (v' := .slice A i c) (ro_sliceO (l := 0) (h := i) NetTake_e47 rfl (.inl ⟨rfl, rfl⟩) (.inr ⟨_, _, _, rfl, rfl, rfl⟩) (by omega) (by omega)) (by rw [restOf_head, Nat.sub_zero, Nat.sub_zero])) ?_
  refine st_val (ro_len NetTake_l47 rfl) ?_
  refine st_val (ro_move (v := .int _ _) rfl) ?_
  refine st_nil ?_
  refine nx_then ?_
  refine cd_block ?_
  refine cd_loop (G := Nat × Option Addr × Nat) [8, 20, 21, 22, 23, 24, 25, 26, 27, 28] (fun (k, A6, c6) => [(6, .slice A6 k c6), (19, .int .i64 (k : Nat))]) (fun (k, A6, c6) w' => k ≤ i ∧ w'.ownsRow w.heap.size 33 13 (.slice A6 k c6) k (((L.take k).map (·.1)).flatMap msgV) ∧ From w w') (fun (k, _, _) => i - k) ((0, none, 0)) ⟨rfl, rfl, trivial⟩ ?_ ?_
  · exact ⟨Nat.zero_le _, World.ownsRow_nil _ _ _ _, (From.rfl_.next E11)⟩
  rintro ⟨k, A6, c6⟩ ρ2 w2 ⟨hk, ho6, hB⟩
  refine cd_seq ?_
  refine cd_region ?_
  refine st_val (ro_lss rfl rfl) ?_
  refine st_nil ?_
  refine nx_then ?_
  refine cd_seq ?_
  refine cd_cond rfl (fun Q3 => ?_) (fun Q3 => ?_)
  · (try first | replace Q3 := bn_t Q3 | replace Q3 := bn_f Q3)
    (try first | replace Q3 := bx_t Q3 | replace Q3 := bx_f Q3 | replace Q3 := be_t Q3 | replace Q3 := be_f Q3 | replace Q3 := of_decide_eq_true Q3 | replace Q3 := of_decide_eq_false Q3)
    have hkL : k < L.length := by omega
    obtain ⟨ba, oa, hA, hcs⟩ := hn.row (by omega)
    subst hA
    first
     | (exfalso; first | omega | contradiction | (cases Q3; done))
     | skip
       refine cd_skip ?_
       refine nx_then ?_
       refine cd_seq ?_
       refine cd_block ?_
       refine cd_seq ?_
       refine cd_region ?_
       refine st_val (ro_indexAddrN NetTake_e47 rfl rfl (by omega)) ?_
       refine st_val (ro_loadA (cs := parV (L[k]'hkL)) NetTake_g53 NetTake_z53 rfl (rangeF hB (hcs k hkL))) ?_
       refine st_alloc NetTake_o53 ?_
       intro b8 w4 E8 hb8 hk8
       refine st_putW (vs := [_, _, _, _, _, _, _, _, _, _, _, _, _, _]) NetTake_z53 rfl rfl (by simp [Value.oneCell']) (hk8) rfl ?_
       intro w5 O5 P5
       have hF6 : From _ w5 := E8.only O5 (Nat.le_of_eq hb8.symm)
       refine st_nil ?_
       refine nx_then ?_
       refine cd_region ?_
       refine st_val (ro_move (v := .slice _ _ _) rfl) ?_
       refine st_val (ro_fieldAddr NetTake_f53_0 rfl) ?_
       refine st_val (ro_loadA (cs := msgV (L[k]'hkL).1) NetTake_g33 NetTake_z33 rfl (par_msg (P5.from_ From.rfl_))) ?_
       refine st_lit (cells := (msgV (L[k]'hkL).1).toArray) NetTake_q27 rfl rfl (fillR _) ?_
       intro b26 w6 E26 hb26 hk26
       have hF26 := hF6.next E26
       refine st_append (a0 := w) (news := msgV (L[k]'hkL).1) NetTake_q27 rfl (by decide) rfl (ho6.kept_from hF26) (((hB.next E8).only O5 (by rw [hb8]; exact hB.size)).next E26) rfl rfl (fun _ => ⟨b26, 0, rfl, hk26.whole⟩) (fun h => by cases h) (by simp [msgV, Value.oneCell']) (by omega) (by omega) ?_
       intro A27 c27 w7 ho27 B27 hg27
       refine st_val (ro_assign (v := .slice _ _ _) rfl) ?_
       refine st_nil ?_
       refine nx_block ?_
       refine nx_then ?_
       refine cd_region ?_
       refine st_val (ro_addN (b := 1) rfl rfl (by omega)) ?_
       refine st_val (ro_move (v := .int _ _) rfl) ?_
       refine st_nil ?_
       refine nx_cut ((k + 1, A27, c27)) ⟨(by first | rfl | (refine int_eq ?_; omega)), (by first | rfl | (refine int_eq ?_; omega)), trivial⟩ (by (iterate 24 refine agr_cons rfl ?_); exact agr_rfl) ⟨?_, ?_⟩
       · exact ⟨by omega, by rw [← take_flatR hkL]; exact ho27, B27⟩
       · show i - (k + 1) < i - k; omega
  · (try first | replace Q3 := bn_t Q3 | replace Q3 := bn_f Q3)
    (try first | replace Q3 := bx_t Q3 | replace Q3 := bx_f Q3 | replace Q3 := be_t Q3 | replace Q3 := be_f Q3 | replace Q3 := of_decide_eq_true Q3 | replace Q3 := of_decide_eq_false Q3)
    first
     | (exfalso; first | omega | contradiction | (cases Q3; done))
     | skip
       refine cd_exit ?_
       refine ex_then ?_
       refine ex_then ?_
       refine ex_block ?_
       refine nx_then ?_
       refine cd_seq ?_
       refine cd_region ?_
       refine st_val (ro_move (v := .pointer _) rfl) ?_
       refine st_val (ro_move (v := .pointer _) rfl) ?_
       refine st_val (ro_nilCheck rfl) ?_
       refine st_val (ro_fieldAddr NetTake_f49_0 rfl) ?_
       refine st_val (ro_load NetTake_g47 rfl (by exact (hn.from_ hB).2.1.rd 0 rfl)) ?_
       refine st_val (ro_move (v := .int _ _) rfl) ?_
       have hF35 : From w w2 := hB
       have hn35 := hn.from_ hF35
       refine st_call NetTake_k24 (del_rt base A c L.length i (L.flatMap parV) _ (hn.from_ hB).2.2 hcut.1 (par_one _) (by omega)) ?_
       rintro v35 w8 ⟨⟨A35, c35, rfl, ho35⟩, hg35⟩
       have hbt35 : Blk w8 b 49 #[.slice A L.length c] := (hn35.2.1).grown hg35 hn35.ne
       refine st_val (ro_nilCheck rfl) ?_
       refine st_val (ro_fieldAddr NetTake_f49_0 rfl) ?_
       refine st_put (v := .slice _ _ _) NetTake_z47 rfl rfl rfl (hbt35) (by show 0 < 1; decide) ?_
       intro w9 O8 P8
       refine st_nil ?_
       refine nx_then ?_
       refine cd_seq ?_
       refine cd_region ?_
       refine st_val (ro_move (v := .slice _ _ _) rfl) ?_
       refine st_val (ro_assign (v := .slice _ _ _) rfl) ?_
       refine st_nil ?_
       refine nx_then ?_
       refine cd_ret ?_
       refine res1 (v := .slice _ _ _) rfl rfl ?_
       obtain rfl : k = i := by omega
       rw [hdu]
       have hKg := Kp.of_grown (b := b) hg35 hn35.2.2
       refine ⟨⟨A6, c6, rfl, ?_⟩, ⟨A35, c35, hn.1, ?_, ?_⟩, ((Kp.of_from hF35).trans hKg).trans (Kp.of_only O8 hn.1)⟩
       · refine own_only3 ((ho6).kept hg35 ?_) O8 ?_
         · exact own_two ho6 hn35.2.2 (by decide)
         · exact own_off (ho6.kept hg35 (own_two ho6 hn35.2.2 (by decide))) hbt35 (by decide)
       · rw [List.length_drop]; exact P8
       · rw [List.length_drop, ← flat_drop par_len]
         exact own_only3 ho35 O8 (own_off ho35 hbt35 (by decide))
end Go.Proofs.Ythakmhdliginoaa
