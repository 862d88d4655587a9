/- net: divide, send, Put, Take, Clear, New. -/
import Derived.Test.YthakmhdliginoaaNetWalks
import Derived.Test.YthakmhdliginoaaFast13
namespace Go.Proofs.Ythakmhdliginoaa
open Go.RowKit
open Go.ChangeShapes Go.WideShapes Go.ChangeAt
theorem NetPut_q47 : litQ Try.prog 47 = some (53, 14, 136, (.agg #[.int .i64 0, .int .i64 0, .int .i64 0, .int .i64 0, .int .i64 0, .int .i64 0, .int .i64 0, .int .i64 0, .bool false, .slice none 0 0, .int .i64 0, .string ⟨#[]⟩, .bool false, .int .i64 0])) := by kernel_rfl
theorem NetPut_e47 : elemQ Try.prog 47 = some (53, 14) := by kernel_rfl
theorem NetPut_g53 : aggQ Try.prog 53 = some true := by kernel_rfl
theorem NetPut_z53 : sizeQ Try.prog 53 = some 14 := by kernel_rfl
theorem NetPut_k36 : callable Try.prog 36 = true := by kernel_rfl
theorem NetPut_g47 : aggQ Try.prog 47 = some false := by kernel_rfl
theorem NetPut_l28 : (elemQ Try.prog 28).isSome = true := by kernel_rfl
theorem NetPut_e28 : elemQ Try.prog 28 = some (3, 1) := by kernel_rfl
theorem NetPut_g3 : aggQ Try.prog 3 = some false := by kernel_rfl
theorem NetPut_f49_0 : fieldQ Try.prog 49 0 = some 0 := by kernel_rfl
theorem NetPut_l47 : (elemQ Try.prog 47).isSome = true := by kernel_rfl
theorem NetPut_g33 : aggQ Try.prog 33 = some true := by kernel_rfl
theorem NetPut_z33 : sizeQ Try.prog 33 = some 13 := by kernel_rfl
theorem NetPut_b53_0_1 : ∀ (a0 : Int) (a1 : Int) (a2 : Int) (a3 : Int) (a4 : Int) (a5 : Int) (a6 : Int) (a7 : Int) (a8 : Bool) (a9 : Option Addr) (a10 a11 : Nat) (a12 : Int) (a13 : ByteArray) (a14 : Bool) (a15 : Int), Try.prog.built 53 [(0, .agg #[.int .i64 a0, .int .i64 a1, .int .i64 a2, .int .i64 a3, .int .i64 a4, .int .i64 a5, .int .i64 a6, .int .i64 a7, .bool a8, .slice a9 a10 a11, .int .i64 a12, .string a13, .bool a14]), (1, .int .i64 a15)] = some #[.int .i64 a0, .int .i64 a1, .int .i64 a2, .int .i64 a3, .int .i64 a4, .int .i64 a5, .int .i64 a6, .int .i64 a7, .bool a8, .slice a9 a10 a11, .int .i64 a12, .string a13, .bool a14, .int .i64 a15] := by intros; kernel_rfl
theorem NetPut_o53 : zeroQ Try.prog 53 = some (.agg #[.int .i64 0, .int .i64 0, .int .i64 0, .int .i64 0, .int .i64 0, .int .i64 0, .int .i64 0, .int .i64 0, .bool false, .slice none 0 0, .int .i64 0, .string ⟨#[]⟩, .bool false, .int .i64 0]) := by kernel_rfl
theorem NetPut_f33_9 : fieldQ Try.prog 33 9 = some 9 := by kernel_rfl
theorem NetPut_g31 : aggQ Try.prog 31 = some false := by kernel_rfl
theorem NetPut_k35 : callable Try.prog 35 = true := by kernel_rfl
theorem NetPut_f53_0 : fieldQ Try.prog 53 0 = some 0 := by kernel_rfl
theorem NetPut_z31 : sizeQ Try.prog 31 = some 1 := by kernel_rfl
theorem NetPut_k23 : callable Try.prog 23 = true := by kernel_rfl
theorem NetPut_z47 : sizeQ Try.prog 47 = some 1 := by kernel_rfl
/-- what a network that changes leaves alone -/
structure Kp (base b : Nat) (w w' : World) : Prop where
  os : w'.os = w.os
  tape : w'.tape = w.tape
  output : w'.output = w.output
  size : w.heap.size ≤ w'.heap.size
  below : ∀ k, k < base → k < w.heap.size → w'.heap[k]? = w.heap[k]?
  blk : ∀ g t cs, g ≠ b → t ≠ 53 → Blk w g t cs → Blk w' g t cs
section
variable {base b : Nat} {w w1 w' : World}
theorem Kp.of_from (h : From w w') : Kp base b w w' := ⟨h.os, h.tape, h.output, h.size, fun k _ hk => h.block k hk, fun _ _ _ _ _ hb => hb.from_ h⟩
theorem Kp.trans (h : Kp base b w w1) (k : Kp base b w1 w') : Kp base b w w' :=
  ⟨k.os.trans h.os, k.tape.trans h.tape, k.output.trans h.output, Nat.le_trans h.size k.size, fun i hi hs => (k.below i hi (Nat.lt_of_lt_of_le hs h.size)).trans (h.below i hi hs), fun g t cs h1 h2 h3 => k.blk g t cs h1 h2 (h.blk g t cs h1 h2 h3)⟩
theorem Kp.of_only (h : Only b w w') (hb : base ≤ b) : Kp base b w w' := ⟨h.os, h.tape, h.output, by rw [h.size]; exact Nat.le_refl _, fun k hk _ => h.block k (by omega), fun g t cs hg _ hk => hk.only h hg⟩
theorem Kp.of_grown {A : Option Addr} {c n : Nat} {xs : List Value} (hg : w.grownBy w' (A.map (·.block))) (ho : w.ownsRow base 53 14 (.slice A n c) n xs) : Kp base b w w' :=
  ⟨hg.os, hg.tape, hg.output, hg.size, fun k hk hs => hg.block k hs (fun e => by have := (own_at ho k e.symm).1; omega), fun g t cs _ ht hk => hk.grown hg (own_off ho hk ht)⟩
theorem Kp.from_ {a : World} (h : From a w) (k : Kp base b w w') (hb : a.heap.size ≤ base) : From a w' :=
  ⟨k.os.trans h.os, k.tape.trans h.tape, k.output.trans h.output, Nat.le_trans h.size k.size, fun i hi => (k.below i (by omega) (Nat.lt_of_lt_of_le hi h.size)).trans (h.block i hi)⟩
end
def dueN (L : Pars) (x : Int) : Nat := L.countP fun q => decide (q.2 ≤ x)
def put1 (L : Pars) (p : Msg × Int) : Pars := if L.length = 4096 then L else L.take (dueN L p.2) ++ [p] ++ L.drop (dueN L p.2)
def putAll (x : Msg) (ts : List Int) (L : Pars) : Pars := ts.foldl (fun l a => put1 l (x, a)) L
theorem cut_due {L : Pars} {x : Int} {i : Nat} (h : Cut L x i) : dueN L x = i := by
  obtain ⟨h0, h1, h2⟩ := h
  unfold dueN
  have hs : L = L.take i ++ L.drop i := (List.take_append_drop i L).symm
  rw [hs, List.countP_append]
  have e1 : (L.take i).countP (fun q => decide (q.2 ≤ x)) = (L.take i).length := by
    rw [List.countP_eq_length]
    intro q hq
    obtain ⟨j, hj, rfl⟩ := List.getElem_of_mem hq
    rw [List.length_take] at hj
    rw [List.getElem_take]
    exact decide_eq_true (h1 j (by omega) (by omega))
  have e2 : (L.drop i).countP (fun q => decide (q.2 ≤ x)) = 0 := by
    rw [List.countP_eq_zero]
    intro q hq
    obtain ⟨j, hj, rfl⟩ := List.getElem_of_mem hq
    rw [List.length_drop] at hj
    rw [List.getElem_drop]
    have := h2 (i + j) (by omega) (by omega)
    simpa using this
  rw [e1, e2, List.length_take]
  omega
theorem sorted_pair {L : Pars} : Sorted L ↔ L.Pairwise fun a b => a.2 ≤ b.2 := by
  rw [List.pairwise_iff_getElem]
  exact Iff.rfl
theorem due_cut {L : Pars} (hs : Sorted L) (x : Int) : Cut L x (dueN L x) := by
  have hle : dueN L x ≤ L.length := List.countP_le_length
  have key : ∀ (L : Pars), L.Pairwise (fun a b => a.2 ≤ b.2) → (∀ q ∈ L.take (dueN L x), q.2 ≤ x) ∧ ∀ q ∈ L.drop (dueN L x), x < q.2 := by
    intro L
    induction L with
    | nil => intro _; simp
    | cons a r ih =>
      intro hp
      rw [List.pairwise_cons] at hp
      by_cases ha : a.2 ≤ x
      · have e : dueN (a :: r) x = dueN r x + 1 := by unfold dueN; rw [List.countP_cons_of_pos (by simpa using ha)]
        rw [e, List.take_succ_cons, List.drop_succ_cons]
        refine ⟨fun q hq => ?_, (ih hp.2).2⟩
        rcases List.mem_cons.1 hq with rfl | hq
        · exact ha
        · exact (ih hp.2).1 q hq
      · have e : dueN (a :: r) x = 0 := by
          unfold dueN
          rw [List.countP_eq_zero]
          intro q hq
          rcases List.mem_cons.1 hq with rfl | hq
          · simpa using ha
          · have := hp.1 q hq
            simp only [decide_eq_true_eq]
            omega
        rw [e]
        refine ⟨fun q hq => by simp at hq, fun q hq => ?_⟩
        rw [List.drop_zero] at hq
        rcases List.mem_cons.1 hq with rfl | hq
        · omega
        · have := hp.1 q hq
          omega
  obtain ⟨k1, k2⟩ := key L (sorted_pair.1 hs)
  refine ⟨hle, fun j hj hjd => k1 _ ?_, fun j hj hjd => k2 _ ?_⟩
  · rw [← List.getElem_take (i := j) (j := dueN L x) (h := by rw [List.length_take]; omega)]
    exact List.getElem_mem _
  · have := List.getElem_drop (xs := L) (i := dueN L x) (j := j - dueN L x) (h := by rw [List.length_drop]; omega)
    have e : dueN L x + (j - dueN L x) = j := by omega
    simp only [e] at this
    rw [← this]
    exact List.getElem_mem _
theorem put1_sorted {L : Pars} {p : Msg × Int} (hs : Sorted L) : Sorted (put1 L p) := by
  unfold put1
  split
  · exact hs
  · obtain ⟨h0, h1, h2⟩ := due_cut hs p.2
    rw [sorted_pair] at hs ⊢
    have ht := hs.sublist (List.take_sublist (dueN L p.2) L)
    have hd := hs.sublist (List.drop_sublist (dueN L p.2) L)
    have m1 : ∀ q ∈ L.take (dueN L p.2), q.2 ≤ p.2 := fun q hq => by
      obtain ⟨j, hj, rfl⟩ := List.getElem_of_mem hq
      rw [List.length_take] at hj
      rw [List.getElem_take]
      exact h1 j (by omega) (by omega)
    have m2 : ∀ q ∈ L.drop (dueN L p.2), p.2 < q.2 := fun q hq => by
      obtain ⟨j, hj, rfl⟩ := List.getElem_of_mem hq
      rw [List.length_drop] at hj
      rw [List.getElem_drop]
      exact h2 _ (by omega) (by omega)
    rw [List.append_assoc, List.pairwise_append, List.singleton_append, List.pairwise_cons]
    refine ⟨ht, ⟨fun q hq => by have := m2 q hq; omega, hd⟩, fun q hq r hr => ?_⟩
    have a := m1 q hq
    rcases List.mem_cons.1 hr with rfl | hr
    · exact a
    · have := m2 r hr; omega
theorem put1_len {L : Pars} {p : Msg × Int} (h : L.length ≤ 4096) : (put1 L p).length ≤ 4096 := by
  unfold put1
  split
  · exact h
  · have : dueN L p.2 ≤ L.length := List.countP_le_length
    simp only [List.length_append, List.length_take, List.length_drop, List.length_singleton]
    omega
theorem putAll_full {x : Msg} : ∀ (ts : List Int) {L : Pars}, L.length = 4096 → putAll x ts L = L
  | [], _, _ => rfl
  | a :: ts, L, h => by
    show putAll x ts (put1 L (x, a)) = L
    have : put1 L (x, a) = L := by unfold put1; rw [if_pos h]
    rw [this]
    exact putAll_full ts h
theorem putAll_split {x : Msg} (ts : List Int) (k : Nat) (L : Pars) : putAll x ts L = putAll x (ts.drop k) (putAll x (ts.take k) L) := by
  unfold putAll
  rw [← List.foldl_append, List.take_append_drop]
theorem putAll_succ {x : Msg} {ts : List Int} {k : Nat} (h : k < ts.length) (L : Pars) : putAll x (ts.take (k + 1)) L = put1 (putAll x (ts.take k) L) (x, ts[k]) := by
  unfold putAll
  rw [List.take_succ_eq_append_getElem h, List.foldl_append]
  rfl
theorem putAll_sorted {x : Msg} : ∀ (ts : List Int) {L : Pars}, Sorted L → Sorted (putAll x ts L)
  | [], _, h => h
  | _ :: ts, _, h => putAll_sorted ts (put1_sorted h)
theorem putAll_len {x : Msg} : ∀ (ts : List Int) {L : Pars}, L.length ≤ 4096 → (putAll x ts L).length ≤ 4096
  | [], _, h => h
  | _ :: ts, _, h => putAll_len ts (put1_len h)
theorem fillP (p : Msg × Int) : Instr.fill (fun i => some (i * 14, 14)) ((Array.range (1 * 14)).map ((.agg #[.int .i64 0, .int .i64 0, .int .i64 0, .int .i64 0, .int .i64 0, .int .i64 0, .int .i64 0, .int .i64 0, .bool false, .slice none 0 0, .int .i64 0, .string ⟨#[]⟩, .bool false, .int .i64 0] : Value).cells[· % (.agg #[.int .i64 0, .int .i64 0, .int .i64 0, .int .i64 0, .int .i64 0, .int .i64 0, .int .i64 0, .int .i64 0, .bool false, .slice none 0 0, .int .i64 0, .string ⟨#[]⟩, .bool false, .int .i64 0] : Value).cells.size]!)) [(0, .agg (parV p).toArray)] = some (parV p).toArray := by
  first
    | kernel_rfl
    | rfl
theorem insFlat {L : Pars} {p : Msg × Int} {i : Nat} (h : L.length ≠ 4096) (hc : Cut L p.2 i) : (L.flatMap parV).take (i * 14) ++ parV p ++ (L.flatMap parV).drop (i * 14) = (put1 L p).flatMap parV ∧ (put1 L p).length = L.length + 1 := by
  have hi := hc.1
  unfold put1
  rw [if_neg h, cut_due hc, flat_take par_len, flat_drop par_len]
  constructor
  · simp
  · simp only [List.length_append, List.length_take, List.length_drop, List.length_singleton]; omega
theorem NetAt.ne {w : World} {base b c : Nat} {A : Option Addr} {L : Pars} (h : NetAt w base b A c L) : ∀ k, A.map (·.block) = some k → k ≠ b := own_off h.2.2 h.2.1 (by decide)
theorem floorQ {a b : Int} (hb : 0 < b) : (a.tmod b < 0 → a.tdiv b - 1 = a / b ∧ a.tmod b + b = a % b) ∧ (0 ≤ a.tmod b → a.tdiv b = a / b ∧ a.tmod b = a % b) := by
  have h1 := Int.tmod_eq_emod (a := a) (b := b)
  have h2 := Int.tdiv_eq_ediv (a := a) (b := b)
  have h3 : 0 ≤ a % b := Int.emod_nonneg a (by omega)
  have h4 : a % b < b := Int.emod_lt_of_pos a hb
  have h5 : b.sign = 1 := Int.sign_eq_one_of_pos hb
  have h6 : (b.natAbs : Int) = b := by omega
  by_cases hc : 0 ≤ a ∨ b ∣ a
  · rw [if_pos hc] at h1 h2
    constructor <;> intro h <;> constructor <;> omega
  · rw [if_neg hc] at h1 h2
    constructor <;> intro h <;> constructor <;> omega
set_option maxRecDepth 100000 in
set_option maxHeartbeats 400000 in
theorem divide_rt (a b : Int) (w : World) (hb : b = 4 ∨ b = 8) (ha : -9223372036854775808 ≤ a ∧ a ≤ 9223372036854775807) :
    Rt Try.prog 27 [.int .i64 a, .int .i64 b] w (fun v w' => v = .tuple #[.int .i64 (a / b), .int .i64 (a % b)] ∧ From w w') := by
  have hb0 : 0 < b := by omega
  have hab : -9223372036854775808 / 4 ≤ a / b ∧ a / b ≤ 9223372036854775807 / 4 ∧ 0 ≤ a % b ∧ a % b < 8 := by
    rcases hb with rfl | rfl <;> omega
  have hfl := @floorQ a b hb0
  generalize hQ : a.tdiv b = q at *
  generalize hR : a.tmod b = r at *
  generalize hX : a / b = x at *
  generalize hY : a % b = y at *
  refine enter (n := 21) Try.func27 rfl rfl rfl ?_
  refine cd_seq ?_
  refine cd_region ?_
  refine st_val (ro_assign (v := .int _ _) rfl) ?_
  refine st_val (ro_assign (v := .int _ _) rfl) ?_
  refine st_nil ?_
  refine nx_then ?_
  refine cd_seq ?_
  apply cd_drawnD 8 [(6, eqp _), (7, eqp _), (8, eqp _), (9, eqp _), (10, eqp _), (11, eqp _), (4, eqp _), (5, eqp _)] (by repeat first | exact pq_body | refine pq_then ?_ | refine pq_block ?_) (by kernel_rfl) (by kernel_rfl) ⟨eqp_mono _, eqp_mono _, eqp_mono _, eqp_mono _, eqp_mono _, eqp_mono _, eqp_mono _, eqp_mono _, trivial⟩
  case hop =>
   refine ⟨?_, ?_⟩
   · rintro - w2 D2
     show OpOK _ _ _ _ _ _ _
     exact ok_pure (ro_move (v := .int _ _) rfl) rfl
   refine ⟨?_, ?_⟩
   · rintro - w3 D3
     show OpOK _ _ _ _ _ _ _
     exact ok_pure (ro_move (v := .int _ _) rfl) rfl
   refine ⟨?_, ?_⟩
   · rintro - w4 D4
     rintro _ rfl _ rfl
     show OpOK _ _ _ _ _ _ _
     exact ok_pure (ro_eq (ro_quo rfl rfl (by omega)) (by rw [hQ, IntWalk.i64_in _ (by omega)])) rfl
   refine ⟨?_, ?_⟩
   · rintro - w5 D5
     show OpOK _ _ _ _ _ _ _
     exact ok_pure (ro_move (v := .int _ _) rfl) rfl
   refine ⟨?_, ?_⟩
   · rintro - w6 D6
     show OpOK _ _ _ _ _ _ _
     exact ok_pure (ro_move (v := .int _ _) rfl) rfl
   refine ⟨?_, ?_⟩
   · rintro - w7 D7
     rintro _ rfl _ rfl
     show OpOK _ _ _ _ _ _ _
     exact ok_pure (ro_eq (ro_rem rfl rfl (by omega)) (by rw [hR])) rfl
   refine ⟨?_, ?_⟩
   · rintro - w8 D8
     rintro _ rfl
     show OpOK _ _ _ _ _ _ _
     exact ok_pure (ro_assign (v := .int _ _) rfl) rfl
   refine ⟨?_, ?_⟩
   · rintro - w9 D9
     rintro _ rfl
     show OpOK _ _ _ _ _ _ _
     exact ok_pure (ro_assign (v := .int _ _) rfl) rfl
   exact trivial
  case hend =>
   intro w10 D10
   rintro _ rfl _ rfl _ rfl _ rfl _ rfl _ rfl _ rfl _ rfl
   show St _ _ _ _ _ _ _
   refine st_nil ?_
   refine nx_then ?_
   refine cd_seq ?_
   refine cd_seq ?_
   refine cd_region ?_
   refine st_val (ro_move (v := .int _ _) rfl) ?_
   refine st_val (ro_lss rfl rfl) ?_
   refine st_nil ?_
   refine nx_then ?_
   refine cd_cond rfl (fun Q11 => ?_) (fun Q11 => ?_)
   · (try first | replace Q11 := bn_t Q11 | replace Q11 := bn_f Q11)
     (try first | replace Q11 := bx_t Q11 | replace Q11 := bx_f Q11 | replace Q11 := be_t Q11 | replace Q11 := be_f Q11 | replace Q11 := of_decide_eq_true Q11 | replace Q11 := of_decide_eq_false Q11)
     refine cd_seq ?_
     refine cd_region ?_
     refine st_val (ro_move (v := .int _ _) rfl) ?_
     refine st_val (ro_sub64 rfl rfl (by omega)) ?_
     refine st_val (ro_move (v := .int _ _) rfl) ?_
     refine st_val (ro_move (v := .int _ _) rfl) ?_
     refine st_val (ro_add64 rfl rfl (by omega)) ?_
     refine st_val (ro_assign (v := .int _ _) rfl) ?_
     refine st_val (ro_assign (v := .int _ _) rfl) ?_
     refine st_nil ?_
     refine nx_then ?_
     refine cd_ret ?_
     refine rt_then ?_
     refine res2 (v := .int _ _) (v' := .int _ _) rfl rfl rfl ?_
     have h7 := hfl.1 (by omega)
     exact ⟨by rw [h7.1, h7.2], (From.rfl_.next D10)⟩
   · (try first | replace Q11 := bn_t Q11 | replace Q11 := bn_f Q11)
     (try first | replace Q11 := bx_t Q11 | replace Q11 := bx_f Q11 | replace Q11 := be_t Q11 | replace Q11 := be_f Q11 | replace Q11 := of_decide_eq_true Q11 | replace Q11 := of_decide_eq_false Q11)
     refine cd_skip ?_
     refine nx_then ?_
     refine cd_seq ?_
     refine cd_region ?_
     refine st_val (ro_move (v := .int _ _) rfl) ?_
     refine st_val (ro_move (v := .int _ _) rfl) ?_
     refine st_val (ro_assign (v := .int _ _) rfl) ?_
     refine st_val (ro_assign (v := .int _ _) rfl) ?_
     refine st_nil ?_
     refine nx_then ?_
     refine cd_ret ?_
     refine res2 (v := .int _ _) (v' := .int _ _) rfl rfl rfl ?_
     have h7 := hfl.2 (by omega)
     exact ⟨by rw [h7.1, h7.2], (From.rfl_.next D10)⟩
set_option maxRecDepth 100000 in
set_option maxHeartbeats 2000000 in
theorem send_rt (base b : Nat) (A : Option Addr) (c : Nat) (L : Pars) (w : World) (hn : NetAt w base b A c L) (hl : L.length ≤ 4096) (hs : Sorted L) (x : Msg) (ts : List Int) (g : Nat) (hts : Blk w g 3 (ts.map iV).toArray) (hgb : g ≠ b) (htl : ts.length ≤ 1000) :
    Rt Try.prog 28 [.pointer (some ⟨b, 0, none⟩), .agg (msgV x).toArray, .slice (some ⟨g, 0, none⟩) ts.length ts.length] w (fun v w' => v = .tuple #[] ∧ (∃ A' c', NetAt w' base b A' c' (putAll x ts L)) ∧ Kp base b w w') := by
  refine enter (n := 43) Try.func28 rfl rfl rfl ?_
  refine cd_seq ?_
  refine cd_region ?_
  refine st_box (v := .agg _) rfl ?_
  intro b4 w1 E4 hb4 hk4
  have hmb : b4 ≠ b := by have := hn.2.1.lt; omega
  refine st_nil ?_
  refine nx_then ?_
  refine cd_seq ?_
  refine cd_region ?_
  refine st_val (ro_move (v := .slice _ _ _) rfl) ?_
  refine st_val (ro_len NetPut_l28 rfl) ?_
  refine st_val (ro_move (v := .int _ _) rfl) ?_
  refine st_nil ?_
  refine nx_then ?_
  refine cd_block ?_
  refine cd_loop (G := Nat × Option Addr × Nat × Pars) [7, 8, 12, 13, 14, 15, 16, 17, 18, 19, 20, 21, 22, 23, 24, 25, 26, 27, 28, 29, 30, 31, 32, 33, 34, 35, 36, 37, 38, 39, 40, 41, 42] (fun (k, _, _, _) => [(11, .int .i64 (k : Nat))]) (fun (k, A', c', L') w' => k ≤ ts.length ∧ L' = putAll x (ts.take k) L ∧ NetAt w' base b A' c' L' ∧ Sorted L' ∧ L'.length ≤ 4096 ∧ Blk w' g 3 (ts.map iV).toArray ∧ Blk w' b4 33 (msgV x).toArray ∧ Kp base b w w') (fun (k, _, _, _) => ts.length - k) ((0, A, c, L)) ⟨rfl, trivial⟩ ?_ ?_
  · exact ⟨Nat.zero_le _, rfl, hn.from_ (From.rfl_.next E4), hs, hl, hts.from_ (From.rfl_.next E4), hk4, Kp.of_from (From.rfl_.next E4)⟩
  rintro ⟨k, A', c', L'⟩ ρ2 w2 ⟨hk, hL, hn2, hs2, hl2, hg2, hm2, hK2⟩
  refine cd_seq ?_
  refine cd_region ?_
  refine st_val (ro_lss rfl rfl) ?_
  refine st_nil ?_
  refine nx_then ?_
  refine cd_seq ?_
  refine cd_cond rfl (fun Q3 => ?_) (fun Q3 => ?_)
  · (try first | replace Q3 := bn_t Q3 | replace Q3 := bn_f Q3)
    (try first | replace Q3 := bx_t Q3 | replace Q3 := bx_f Q3 | replace Q3 := be_t Q3 | replace Q3 := be_f Q3 | replace Q3 := of_decide_eq_true Q3 | replace Q3 := of_decide_eq_false Q3)
    have hk2 : k < ts.length := by omega
    first
     | (exfalso; first | omega | contradiction | (cases Q3; done))
     | skip
       refine cd_skip ?_
       refine nx_then ?_
       refine cd_seq ?_
       refine cd_block ?_
       refine cd_seq ?_
       refine cd_region ?_
       refine st_val (ro_indexAddr0 NetPut_e28 rfl rfl (by omega)) ?_
       refine st_val (ro_load NetPut_g3 rfl (by exact hg2.rd k (arr_get k hk2))) ?_
       refine st_val (ro_assign (v := .int _ _) rfl) ?_
       refine st_nil ?_
       refine nx_then ?_
       refine cd_seq ?_
       refine cd_seq ?_
       refine cd_region ?_
       refine st_val (ro_move (v := .pointer _) rfl) ?_
       refine st_val (ro_nilCheck rfl) ?_
       refine st_val (ro_fieldAddr NetPut_f49_0 rfl) ?_
       refine st_val (ro_load NetPut_g47 rfl (by exact hn2.2.1.rd 0 rfl)) ?_
       refine st_val (ro_len NetPut_l47 rfl) ?_
       refine st_val (ro_eql rfl rfl) ?_
       refine st_nil ?_
       refine nx_then ?_
       refine cd_cond rfl (fun Q4 => ?_) (fun Q4 => ?_)
       · (try first | replace Q4 := bn_t Q4 | replace Q4 := bn_f Q4)
         (try first | replace Q4 := bx_t Q4 | replace Q4 := bx_f Q4 | replace Q4 := be_t Q4 | replace Q4 := be_f Q4 | replace Q4 := of_decide_eq_true Q4 | replace Q4 := of_decide_eq_false Q4)
         first
          | (exfalso; first | omega | contradiction | (cases Q4; done))
          | skip
            refine cd_ret ?_
            refine rt_then ?_
            refine rt_block ?_
            refine rt_then ?_
            refine rt_then ?_
            refine rt_block ?_
            refine res0 rfl ?_
            exact ⟨rfl, ⟨A', c', by rw [putAll_split ts k, ← hL, putAll_full _ (by omega)]; exact hn2⟩, hK2⟩
       · (try first | replace Q4 := bn_t Q4 | replace Q4 := bn_f Q4)
         (try first | replace Q4 := bx_t Q4 | replace Q4 := bx_f Q4 | replace Q4 := be_t Q4 | replace Q4 := be_f Q4 | replace Q4 := of_decide_eq_true Q4 | replace Q4 := of_decide_eq_false Q4)
         have hne4 : L'.length ≠ 4096 := by omega
         first
          | (exfalso; first | omega | contradiction | (cases Q4; done))
          | skip
            refine cd_skip ?_
            refine nx_then ?_
            refine cd_seq ?_
            refine cd_region ?_
            refine st_val (ro_loadA (cs := [_, _, _, _, _, _, _, _, _, _, _, _, _]) NetPut_g33 NetPut_z33 rfl (by exact hm2.whole)) ?_
            refine st_val (ro_move (v := .int _ _) rfl) ?_
            refine st_val (ro_build (l := [(0, .tmp 21), (1, .tmp 22)]) (NetPut_b53_0_1 _ _ _ _ _ _ _ _ _ _ _ _ _ _ _ _)) ?_
            refine st_alloc NetPut_o53 ?_
            intro b8 w5 E8 hb8 hk8
            have hz8 := hb8
            refine st_putW (vs := [_, _, _, _, _, _, _, _, _, _, _, _, _, _]) NetPut_z53 rfl rfl (by simp [Value.oneCell']) (hk8) rfl ?_
            intro w6 O5 P5
            have hF5 := E8.only O5 (Nat.le_of_eq hb8.symm)
            refine st_nil ?_
            refine nx_then ?_
            refine cd_seq ?_
            refine cd_region ?_
            refine st_val (ro_fieldAddr NetPut_f33_9 rfl) ?_
            refine st_val (ro_load NetPut_g31 rfl (by exact (hm2.from_ hF5).rd 9 rfl)) ?_
            refine st_call NetPut_k35 (clone_nil _) ?_
            rintro v26 w7 ⟨rfl, rfl⟩
            refine st_val (ro_fieldAddr NetPut_f53_0 rfl) ?_
            refine st_val (ro_fieldAddr NetPut_f33_9 rfl) ?_
            refine st_put (v := .slice _ _ _) NetPut_z31 rfl rfl rfl (P5) (by show 0 + 0 + 9 < 14; decide) ?_
            intro w8 O6 P6
            have hF6 := hF5.only O6 (Nat.le_of_eq hb8.symm)
            have P6b : Blk w8 b8 53 (parV (x, ts[k]'hk2)).toArray := P6
            have hn7 := hn2.from_ hF6
            refine st_nil ?_
            refine nx_then ?_
            apply cd_mu9 13 10 [38] [(29, eqp _), (30, eqp _), (31, eqp _), (32, eqp _), (33, eqp _), (34, eqp _), (35, eqp _), (36, fun v _ => ∃ i : Nat, v = .int .i64 (i : Nat) ∧ Cut L' (ts[k]'hk2) i), (37, eqp (.agg (parV (x, ts[k]'hk2)).toArray)), (38, fun v w' => ∃ q, v = .slice (some ⟨q, 0, none⟩) 1 1 ∧ Blk w' q 53 (parV (x, ts[k]'hk2)).toArray ∧ (w8).heap.size ≤ q), (39, fun v w' => ∃ A2 c2, v = .slice A2 (put1 L' (x, ts[k]'hk2)).length c2 ∧ w'.ownsRow base 53 14 (.slice A2 (put1 L' (x, ts[k]'hk2)).length c2) (put1 L' (x, ts[k]'hk2)).length ((put1 L' (x, ts[k]'hk2)).flatMap parV)), (40, eqp _), (41, eqp _)] (fun w' => From w8 w') (fun w' => Kp base b w8 w' ∧ Blk w' b 49 #[.slice A' L'.length c']) (by repeat first | exact pq_body | refine pq_then ?_ | refine pq_block ?_) (by kernel_rfl) (by kernel_rfl) (by kernel_rfl) ⟨eqp_mono _, eqp_mono _, eqp_mono _, eqp_mono _, eqp_mono _, eqp_mono _, eqp_mono _, (fun _ _ _ _ h => h), eqp_mono _, (fun _ _ _ hF ⟨q, h1, h2, h3⟩ => ⟨q, h1, h2.from_ hF, h3⟩), (fun _ _ _ hF ⟨A2, c2, h1, h2⟩ => ⟨A2, c2, h1, h2.kept_from hF⟩), eqp_mono _, eqp_mono _, trivial⟩ (From.rfl_.d1) (⟨Kp.of_from From.rfl_.d1, hn7.2.1.from_ From.rfl_.d1⟩) (fun _ _ hF h => h.next hF) (fun _ _ hF h => ⟨h.1.trans (Kp.of_from hF), h.2.from_ hF⟩)
            case hop =>
             refine ⟨?_, ?_⟩
             · rintro - w10 ⟨hK10, hB10⟩
               show OpOK _ _ _ _ _ _ _
               exact ok_pure (ro_move (v := .pointer _) rfl) rfl
             refine ⟨?_, ?_⟩
             · rintro - w11 ⟨hK11, hB11⟩
               show OpOK _ _ _ _ _ _ _
               exact ok_pure (ro_move (v := .pointer _) rfl) rfl
             refine ⟨?_, ?_⟩
             · rintro - w12 ⟨hK12, hB12⟩
               rintro _ rfl
               show OpOK _ _ _ _ _ _ _
               exact ok_pure (ro_nilCheck rfl) rfl
             refine ⟨?_, ?_⟩
             · rintro - w13 D13
               rintro _ rfl
               show OpOK _ _ _ _ _ _ _
               exact ok_pure (ro_fieldAddr NetPut_f49_0 rfl) rfl
             refine ⟨?_, ?_⟩
             · rintro - w14 D14
               rintro _ rfl
               show OpOK _ _ _ _ _ _ _
               exact ok_pure (ro_load NetPut_g47 rfl ((hn7.2.1.from_ D14).rd 0 rfl)) rfl
             refine ⟨?_, ?_⟩
             · rintro - w15 D15
               show OpOK _ _ _ _ _ _ _
               exact ok_pure (ro_move (v := .pointer _) rfl) rfl
             refine ⟨?_, ?_⟩
             · rintro - w16 D16
               show OpOK _ _ _ _ _ _ _
               exact ok_pure (ro_move (v := .int _ _) rfl) rfl
             refine ⟨?_, ?_⟩
             · rintro - w17 D17
               rintro _ rfl _ rfl
               show OpOK _ _ _ _ _ _ _
               refine ok_call NetPut_k23 ((due_rt base b A' c' L' _ (hn7.from_ D17) (by omega) (ts[k]'hk2) hs2).mono ?_)
               rintro v w2 ⟨⟨i, rfl, hc⟩, hE⟩
               exact ⟨hE, i, rfl, hc⟩
             refine ⟨?_, ?_⟩
             · rintro - w18 D18
               show OpOK _ _ _ _ _ _ _
               exact ok_pure (ro_loadA (cs := parV (x, ts[k]'hk2)) NetPut_g53 NetPut_z53 rfl ((P6b.from_ D18).whole)) rfl
             refine ⟨?_, ?_⟩
             · rintro - w19 D19
               rintro v19_37 rfl
               show OpOK _ _ _ _ _ _ _
               exact ok_val (ro_lit (l := [(0, .tmp 37)]) (cells := (parV (x, ts[k]'hk2)).toArray) NetPut_q47 rfl rfl (fillP _)) (From.rfl_.new _) ⟨_, rfl, Blk.new _ _ _, D19.size⟩
             refine ⟨?_, ?_⟩
             · intro h; cases h
             refine ⟨?_, ?_⟩
             · rintro - w21 ⟨hK21, hB21⟩
               rintro _ rfl
               show OpOK _ _ _ _ _ _ _
               exact ok_pure (ro_nilCheck rfl) rfl
             refine ⟨?_, ?_⟩
             · rintro - w22 ⟨hK22, hB22⟩
               rintro _ rfl
               show OpOK _ _ _ _ _ _ _
               exact ok_pure (ro_fieldAddr NetPut_f49_0 rfl) rfl
             exact trivial
            case hmu =>
             rintro w23 D23
             rintro _ rfl v23_36 ⟨i23, rfl, hc23⟩ v23_38 ⟨q23, rfl, hq23, hqs23⟩
             show MuOK _ _ _ _ _ _ _
             obtain ⟨hfl, hln⟩ := insFlat (p := (x, ts[k]'hk2)) hne4 hc23
             have hn23 := hn7.from_ D23
             refine mu_call NetPut_k36 (insert_rt base A' c' L'.length i23 1 q23 0 1 (L'.flatMap parV) (parV (x, ts[k]'hk2)) _ _ _ hn23.2.2 (Nat.le_trans hn.1 (Nat.le_of_lt hn23.2.1.lt)) hc23.1 (by decide) rfl hq23.whole hq23 (fun k hk e => by have := (own_at hn7.2.2 k hk).2; omega) (par_one _) (by simp [parV, Value.oneCell']) (by omega)) ?_
             rintro v w3 ⟨⟨A2, c2, rfl, ho3⟩, hg3⟩
             rw [hfl, ← hln] at ho3
             refine ⟨⟨(Kp.of_from D23).trans (Kp.of_grown hg3 hn23.2.2), (hn23.2.1).grown hg3 hn23.ne⟩, ⟨A2, c2, by rw [hln], ho3⟩, fun t u ht h => muR_look (by repeat first | exact trivial | refine ⟨.inl rfl, ?_⟩ | refine ⟨.inr (fun _ h => h), ?_⟩) t u ht h⟩
            case hend =>
             rintro w24 ⟨hK24, hB24⟩
             rintro _ rfl _ rfl _ rfl _ rfl _ rfl _ rfl _ rfl v36 ⟨i24, rfl, hc24⟩ v37 rfl v38 _ v39 ⟨A39, c39, rfl, ho39⟩ _ rfl _ rfl
             show St _ _ _ _ _ _ _
             have hK7 := hK24
             have hBb := hB24
             refine st_put (v := .slice _ _ _) NetPut_z47 rfl rfl rfl (hBb) (by show 0 < 1; decide) ?_
             intro w25 O7 P7
             refine st_nil ?_
             refine nx_block ?_
             refine nx_then ?_
             refine cd_region ?_
             refine st_val (ro_addN (b := 1) rfl rfl (by omega)) ?_
             refine st_val (ro_move (v := .int _ _) rfl) ?_
             refine st_nil ?_
             refine nx_cut ((k + 1, A39, c39, put1 L' (x, ts[k]'hk2))) ⟨(by first | rfl | (refine int_eq ?_; omega)), trivial⟩ (by (iterate 68 refine agr_cons rfl ?_); exact agr_rfl) ⟨?_, ?_⟩
             · exact ⟨by omega, by rw [putAll_succ hk2, ← hL], ⟨hn.1, P7, own_only3 ho39 O7 (own_off ho39 hBb (by decide))⟩, put1_sorted hs2, put1_len hl2, ((hK7.blk _ _ _ hgb (by decide) (hg2.from_ hF6))).only O7 hgb, ((hK7.blk _ _ _ hmb (by decide) (hm2.from_ hF6))).only O7 hmb, ((hK2.trans (Kp.of_from hF6)).trans hK7).trans (Kp.of_only O7 hn.1)⟩
             · show ts.length - (k + 1) < ts.length - k; omega
  · (try first | replace Q3 := bn_t Q3 | replace Q3 := bn_f Q3)
    (try first | replace Q3 := bx_t Q3 | replace Q3 := bx_f Q3 | replace Q3 := be_t Q3 | replace Q3 := be_f Q3 | replace Q3 := of_decide_eq_true Q3 | replace Q3 := of_decide_eq_false Q3)
    first
     | (exfalso; first | omega | contradiction | (cases Q3; done))
     | skip
       refine cd_exit ?_
       refine ex_then ?_
       refine ex_then ?_
       refine ex_block ?_
       refine end_ret ?_
       refine res0 rfl ?_
       obtain rfl : k = ts.length := by omega
       rw [List.take_length] at hL
       exact ⟨rfl, ⟨A', c', hL ▸ hn2⟩, hK2⟩
end Go.Proofs.Ythakmhdliginoaa
