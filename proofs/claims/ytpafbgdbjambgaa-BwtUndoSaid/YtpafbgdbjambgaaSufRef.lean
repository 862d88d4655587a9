/- the reference: sorted. -/
import Derived.Test.YtpafbgdbjambgaaSufBefore
namespace Go.Proofs.Ytpafbgdbjambgaa
open Go.RowKit
open Go.ChangeShapes Go.WideShapes Go.ChangeAt
open Go.Proofs.Ytpafbgdbjambgaa.SA
theorem SufRef_e24 : elemQ Try.prog 24 = some (3, 1) := by kernel_rfl
theorem SufRef_q24 : litQ Try.prog 24 = some (3, 1, 8, (.int .i64 0)) := by kernel_rfl
theorem SufRef_m24 : makeQ Try.prog 24 = some (3, 8, (.int .i64 0)) := by kernel_rfl
theorem SufRef_l24 : (elemQ Try.prog 24).isSome = true := by kernel_rfl
theorem SufRef_g3 : aggQ Try.prog 3 = some false := by kernel_rfl
theorem SufRef_k8 : callable Try.prog 8 = true := by kernel_rfl
theorem SufRef_k32 : callable Try.prog 32 = true := by kernel_rfl
theorem SufRef_k37 : callable Try.prog 37 = true := by kernel_rfl
set_option maxRecDepth 100000 in
set_option maxHeartbeats 400000 in
theorem copyNums_any (A : Option Addr) (c : Nat) (l : List Int) (w : World) (hr : RowOf iV w A l) (hl : l.length * 8 ≤ 140737488351232) :
    Rt Try.prog 8 [.slice A l.length c] w (fun v w' => ∃ A' c', v = .slice A' l.length c' ∧ w'.ownsRow w.heap.size 3 1 v l.length (l.map iV) ∧ From w w') := by
  refine enter (n := 19) Try.func8 rfl rfl rfl ?_
  refine cd_seq ?_
  refine cd_region ?_
  refine st_val (ro_assign (v := .slice _ _ _) rfl) ?_
  refine st_nil ?_
  refine nx_then ?_
  refine cd_seq ?_
  refine cd_region ?_
  refine st_val (ro_assign (v := .slice _ _ _) rfl) ?_
  refine st_nil ?_
  refine nx_then ?_
  refine cd_seq ?_
  refine cd_seq ?_
  refine cd_region ?_
  refine st_val (ro_assign (v := .int _ _) rfl) ?_
  refine st_nil ?_
  refine nx_then ?_
  refine cd_block ?_
  refine cd_loop (G := Nat × Option Addr × Nat) [5, 6, 7, 8, 9, 10, 11, 12, 13, 14, 15, 16, 17] (fun g => [(3, .slice g.2.1 g.1 g.2.2), (4, .int .i64 (g.1 : Nat))]) (fun g w' => g.1 ≤ l.length ∧ w'.ownsRow w.heap.size 3 1 (.slice g.2.1 g.1 g.2.2) g.1 ((l.take g.1).map iV) ∧ From w w') (fun g => l.length - g.1) ((0, none, 0)) ⟨rfl, rfl, trivial⟩ ?_ ?_
  · exact ⟨Nat.zero_le _, World.ownsRow_nil _ _ _ _, From.rfl_⟩
  rintro ⟨k, A3, c3⟩ ρ1 w1 ⟨hk, ho, hB⟩
  simp only at hk ho
  refine cd_seq ?_
  refine cd_seq ?_
  refine cd_region ?_
  refine st_val (ro_move (v := .int _ _) rfl) ?_
  refine st_val (ro_move (v := .slice _ _ _) rfl) ?_
  refine st_val (ro_len SufRef_l24 rfl) ?_
  refine st_val (ro_lss rfl rfl) ?_
  refine st_nil ?_
  refine nx_then ?_
  refine cd_cond rfl (fun Q2 => ?_) (fun Q2 => ?_)
  · (try first | replace Q2 := bn_t Q2 | replace Q2 := bn_f Q2)
    (try first | replace Q2 := bx_t Q2 | replace Q2 := bx_f Q2 | replace Q2 := be_t Q2 | replace Q2 := be_f Q2 | replace Q2 := of_decide_eq_true Q2 | replace Q2 := of_decide_eq_false Q2)
    obtain ⟨ba, oa, rfl, ca⟩ := hr (by omega)
    first
     | (exfalso; first | omega | contradiction | (cases Q2; done))
     | skip
       refine cd_skip ?_
       refine nx_then ?_
       refine cd_seq ?_
       refine cd_block ?_
       refine cd_region ?_
       refine st_val (ro_move (v := .slice _ _ _) rfl) ?_
       refine st_val (ro_move (v := .slice _ _ _) rfl) ?_
       refine st_val (ro_move (v := .int _ _) rfl) ?_
       refine st_val (ro_indexAddr1 SufRef_e24 rfl rfl (by omega)) ?_
       refine st_val (ro_load SufRef_g3 rfl (by first | (exact cellF hB (ca k (by omega))))) ?_
       refine st_lit1 (v := .int _ _) SufRef_q24 rfl rfl rfl ?_
       intro b16 w3 E16 hb16 hk16
       refine st_push1 (a0 := w) SufRef_q24 rfl rfl (ho.kept_from E16) (hB.next E16) rfl hk16 rfl (by omega) (by omega) ?_
       intro A17 c17 w4 ho17 B17 hg17
       refine st_val (ro_assign (v := .slice _ _ _) rfl) ?_
       refine st_nil ?_
       refine nx_block ?_
       refine nx_then ?_
       refine cd_region ?_
       refine st_val (ro_move (v := .int _ _) rfl) ?_
       refine st_val (ro_add64 rfl rfl (by omega)) ?_
       refine st_val (ro_assign (v := .int _ _) rfl) ?_
       refine st_nil ?_
       refine nx_cut ((k + 1, A17, c17)) ⟨(by first | rfl | (refine int_eq ?_; omega)), (by first | rfl | (refine int_eq ?_; omega)), trivial⟩ (by (iterate 30 refine agr_cons rfl ?_); exact agr_rfl) ⟨?_, ?_⟩
       · exact ⟨by simp only; omega, by rw [map_take_succ iV (by omega)]; exact ho17, B17⟩
       · simp only; omega
  · (try first | replace Q2 := bn_t Q2 | replace Q2 := bn_f Q2)
    (try first | replace Q2 := bx_t Q2 | replace Q2 := bx_f Q2 | replace Q2 := be_t Q2 | replace Q2 := be_f Q2 | replace Q2 := of_decide_eq_true Q2 | replace Q2 := of_decide_eq_false Q2)
    first
     | (exfalso; first | omega | contradiction | (cases Q2; done))
     | skip
       refine cd_exit ?_
       refine ex_then ?_
       refine ex_then ?_
       refine ex_block ?_
       refine nx_then ?_
       refine cd_seq ?_
       refine cd_region ?_
       refine st_val (ro_move (v := .slice _ _ _) rfl) ?_
       refine st_val (ro_assign (v := .slice _ _ _) rfl) ?_
       refine st_nil ?_
       refine nx_then ?_
       refine cd_ret ?_
       refine res1 (v := .slice _ _ _) rfl rfl ?_
       obtain rfl : k = l.length := by omega
       exact ⟨A3, c3, rfl, by rwa [List.take_length] at ho, hB⟩
abbrev cI (l : List Nat) : List Int := l.map fun x : Nat => (x : Int)
/-- a row of numbers that may be read, and appended -/
structure Got (w : World) (A : Option Addr) (n c : Nat) (l : List Nat) : Prop where
  len : n = l.length
  row : RowOf iV w A (cI l)
  nil : A = none → c = 0
  cap : n ≤ c
theorem Got.from_ {w w' : World} {A : Option Addr} {n c : Nat} {l : List Nat} (h : Got w A n c l) (hF : From w w') : Got w' A n c l := ⟨h.len, h.row.from_ hF, h.nil, h.cap⟩
theorem Got.own {w : World} {base n c : Nat} {A : Option Addr} {l : List Nat} (h : w.ownsRow base 3 1 (.slice A n c) n ((cI l).map iV)) : Got w A n c l := by
  obtain ⟨a, b⟩ := RowOf.own h
  refine ⟨by simpa using a, b, fun e => ?_, own_cap h⟩
  rcases h.2 with ⟨h0, _⟩ | ⟨g, cap, cur, hv, _⟩
  · simp only [Value.slice.injEq] at h0
    exact h0.2.2
  · simp only [Value.slice.injEq] at hv
    rw [e] at hv
    cases hv.1
theorem Got.src {w : World} {A : Option Addr} {n c : Nat} {l : List Nat} (h : Got w A n c l) (h0 : 0 < n) : ∃ b o, A = some ⟨b, o, none⟩ ∧ w.rangeAt b o ((cI l).map iV) := by
  obtain ⟨b, o, rfl, hc⟩ := h.row (by rw [List.length_map, ← h.len]; exact h0)
  refine ⟨b, o, rfl, fun j v hv => ?_⟩
  rw [List.getElem?_map] at hv
  cases e : (cI l)[j]? with
  | none => rw [e] at hv; cases hv
  | some x =>
    rw [e] at hv
    obtain ⟨hj, e2⟩ := List.getElem?_eq_some_iff.1 e
    have := hc j hj
    rw [e2] at this
    simp only [Option.map_some, Option.some.injEq] at hv
    rw [this, hv]
theorem Got.head {w : World} {A : Option Addr} {n c : Nat} {x : Nat} {l : List Nat} (h : Got w A n c (x :: l)) : ∃ b o, A = some ⟨b, o, none⟩ ∧ w.cell? ⟨b, o, none⟩ = some (.int .i64 ((x : Nat) : Int)) ∧ n = l.length + 1 ∧ Got w (some ⟨b, if c = 1 then o else o + 1, none⟩) (n - 1) (c - 1) l := by
  have hl := h.len
  have hc := h.cap
  rw [List.length_cons] at hl
  obtain ⟨b, o, rfl, hr⟩ := h.row (by simp)
  refine ⟨b, o, rfl, by have := hr 0 (by simp); simpa using this, hl, by omega, fun h0 => ?_, fun e => (by cases e), by omega⟩
  rw [List.length_map] at h0
  rw [if_neg (by omega)]
  refine ⟨b, o + 1, rfl, fun i hi => ?_⟩
  have := hr (i + 1) (by simpa using hi)
  simpa [Nat.add_assoc, Nat.add_comm 1 i] using this
theorem Got.take {w : World} {b o n c k : Nat} {l : List Nat} (h : Got w (some ⟨b, o, none⟩) n c l) (hk : k ≤ n) : RowOf iV w (some ⟨b, o, none⟩) (cI (l.take k)) := fun h0 => by
  have hl := h.len
  obtain ⟨b', o', e, hr⟩ := h.row (by simp at h0 ⊢; omega)
  cases e
  refine ⟨b, o, rfl, fun i hi => ?_⟩
  have hi2 : i < k ∧ i < l.length := by simp at hi; omega
  have := hr i (by simpa using hi2.2)
  simpa using this
theorem Got.drop {w : World} {b o n c k : Nat} {l : List Nat} (h : Got w (some ⟨b, o, none⟩) n c l) (hk : k < n) : RowOf iV w (some ⟨b, if c = k then o else o + k, none⟩) (cI (l.drop k)) := fun h0 => by
  have hl := h.len
  have hc := h.cap
  obtain ⟨b', o', e, hr⟩ := h.row (by simp; omega)
  cases e
  rw [if_neg (by omega)]
  refine ⟨b, o + k, rfl, fun i hi => ?_⟩
  have hi2 : k + i < l.length := by simp at hi; omega
  have := hr (k + i) (by simpa using hi2)
  simpa [Nat.add_assoc] using this
/-- two halves that are merged -/
structure Mg (n : Nat) (t : Nat → Nat) (a out xs ys : List Nat) : Prop where
  mem : ∀ z, z ∈ a ↔ z ∈ out ∨ z ∈ xs ∨ z ∈ ys
  px : (out ++ xs).Pairwise (sl n t)
  py : (out ++ ys).Pairwise (sl n t)
  dj : ∀ z, z ∈ xs → z ∈ ys → False
  len : out.length + xs.length + ys.length = a.length
theorem Mg.swap {n : Nat} {t : Nat → Nat} {a out xs ys : List Nat} (h : Mg n t a out xs ys) : Mg n t a out ys xs :=
  ⟨fun z => by rw [h.mem]; exact ⟨fun a => a.elim .inl (fun a => .inr a.symm), fun a => a.elim .inl (fun a => .inr a.symm)⟩, h.py, h.px, fun z a b => h.dj z b a, by have := h.len; omega⟩
theorem Mg.left {n : Nat} {t : Nat → Nat} {a out xs ys : List Nat} {x y : Nat} (h : Mg n t a out (x :: xs) (y :: ys)) (hs : sl n t x y) : Mg n t a (out ++ [x]) xs (y :: ys) := by
  have hx := List.pairwise_append.1 h.px
  have hy := List.pairwise_append.1 h.py
  have hx2 := List.pairwise_cons.1 hx.2.1
  have hy2 := List.pairwise_cons.1 hy.2.1
  refine ⟨fun z => ?_, by rw [List.append_assoc]; exact h.px, ?_, fun z h1 h2 => h.dj z (List.mem_cons_of_mem _ h1) h2, by have := h.len; simp at this ⊢; omega⟩
  · rw [h.mem]
    simp only [List.mem_append, List.mem_cons, List.mem_singleton, List.not_mem_nil, or_false]
    constructor
    · rintro (a | (a | a) | a)
      · exact .inl (.inl a)
      · exact .inl (.inr a)
      · exact .inr (.inl a)
      · exact .inr (.inr a)
    · rintro ((a | a) | a | a)
      · exact .inl a
      · exact .inr (.inl (.inl a))
      · exact .inr (.inl (.inr a))
      · exact .inr (.inr a)
  · rw [List.pairwise_append]
    refine ⟨?_, hy.2.1, fun p hp q hq => ?_⟩
    · rw [List.pairwise_append]
      exact ⟨hx.1, List.pairwise_singleton .., fun p hp q hq => by rw [List.mem_singleton] at hq; subst hq; exact hx.2.2 p hp _ (List.mem_cons_self ..)⟩
    · rcases List.mem_append.1 hp with hp | hp
      · exact hy.2.2 p hp q hq
      · rw [List.mem_singleton] at hp
        subst hp
        rcases List.mem_cons.1 hq with rfl | hq
        · exact hs
        · exact sl_trans hs (hy2.1 q hq)
theorem Mg.fin {n : Nat} {t : Nat → Nat} {a out xs ys : List Nat} (h : Mg n t a out xs ys) (he : xs = [] ∨ ys = []) : (out ++ xs ++ ys).length = a.length ∧ (∀ z, z ∈ out ++ xs ++ ys ↔ z ∈ a) ∧ (out ++ xs ++ ys).Pairwise (sl n t) := by
  refine ⟨by have := h.len; simp; omega, fun z => by rw [h.mem]; simp [or_assoc], ?_⟩
  rcases he with rfl | rfl
  · rw [List.append_nil]; exact h.py
  · rw [List.append_nil]; exact h.px
theorem Mg.start {n k : Nat} {t : Nat → Nat} {a X Y : List Nat} (hn : a.Nodup) (h1 : X.length = (a.take k).length) (h2 : ∀ z, z ∈ X ↔ z ∈ a.take k) (h3 : X.Pairwise (sl n t)) (k1 : Y.length = (a.drop k).length) (k2 : ∀ z, z ∈ Y ↔ z ∈ a.drop k) (k3 : Y.Pairwise (sl n t)) : Mg n t a [] X Y := by
  have e := List.take_append_drop k a
  refine ⟨fun z => ?_, h3, k3, fun z a1 a2 => ?_, ?_⟩
  · rw [h2, k2, ← List.mem_append, e]
    simp
  · rw [← e] at hn
    exact (List.nodup_append.1 hn).2.2 z ((h2 z).1 a1) z ((k2 z).1 a2) rfl
  · have := congrArg List.length e
    rw [List.length_append, ← h1, ← k1] at this
    simpa using this
/-- what sorted tells -/
def SortedA (w w' : World) (n : Nat) (t : Nat → Nat) (a : List Nat) (v : Value) : Prop := ∃ B c F, v = .slice B a.length c ∧ Got w' B a.length c F ∧ (∀ z, z ∈ F ↔ z ∈ a) ∧ F.Pairwise (sl n t) ∧ From w w'
theorem copy_n (A : Option Addr) (c n : Nat) (l : List Nat) (w : World) (hr : RowOf iV w A (cI l)) (hn : n = l.length) (hl : n ≤ 1000000) : Rt Try.prog 8 [.slice A n c] w fun v w' => (∃ A' c', v = .slice A' n c' ∧ Got w' A' n c' l) ∧ From w w' := by
  have hn2 : n = (cI l).length := by simpa using hn
  rw [hn2]
  refine (copyNums_any A c (cI l) w hr (by omega)).mono fun v w' h => ?_
  obtain ⟨A', c', rfl, ho, hF⟩ := h
  exact ⟨⟨A', c', rfl, Got.own ho⟩, hF⟩
set_option maxRecDepth 100000 in
set_option maxHeartbeats 3000000 in
theorem rsorted_w (L : List Nat) (hL : L.length ≤ 131072) (k : Nat) (ih : ∀ k', k' < k → ∀ (A B : Option Addr) (c cb n : Nat) (a : List Nat) (w : World), RowOf iV w A (cI L) → n = L.length → Got w B k' cb a → (∀ x ∈ a, x < L.length) → a.Nodup → k' ≤ 131072 → Rt Try.prog 32 [.slice A n c, .slice B k' cb] w fun v w' => SortedA w w' (L.length + 1) (endT L) a v) (A B : Option Addr) (c cb n : Nat) (a : List Nat) (w : World) (hr : RowOf iV w A (cI L)) (hn : n = L.length) (hg : Got w B k cb a) (hx : ∀ x ∈ a, x < L.length) (hnd : a.Nodup) (hk : k ≤ 131072) :
    Rt Try.prog 32 [.slice A n c, .slice B k cb] w (fun v w' => SortedA w w' (L.length + 1) (endT L) a v) := by
  refine enter (n := 66) Try.func32 rfl rfl rfl ?_
  refine cd_seq ?_
  refine cd_region ?_
  refine st_val (ro_assign (v := .slice _ _ _) rfl) ?_
  refine st_nil ?_
  refine nx_then ?_
  refine cd_seq ?_
  refine cd_seq ?_
  refine cd_region ?_
  refine st_val (ro_move (v := .slice _ _ _) rfl) ?_
  refine st_val (ro_len SufRef_l24 rfl) ?_
  refine st_val (ro_lss rfl rfl) ?_
  refine st_nil ?_
  refine nx_then ?_
  refine cd_cond rfl (fun Q1 => ?_) (fun Q1 => ?_)
  · (try with_reducible first | replace Q1 := of_decide_eq_true Q1 | replace Q1 := of_decide_eq_false Q1 | replace Q1 := bn_t Q1 | replace Q1 := bn_f Q1)
    (try with_reducible first | replace Q1 := of_decide_eq_true Q1 | replace Q1 := of_decide_eq_false Q1 | replace Q1 := bx_t Q1 | replace Q1 := bx_f Q1 | replace Q1 := be_t Q1 | replace Q1 := be_f Q1)
    refine cd_seq ?_
    refine cd_region ?_
    refine st_val (ro_move (v := .slice _ _ _) rfl) ?_
    refine st_val (ro_assign (v := .slice _ _ _) rfl) ?_
    refine st_nil ?_
    refine nx_then ?_
    refine cd_ret ?_
    refine rt_then ?_
    refine res1 (v := .slice _ _ _) rfl rfl ?_
    have hl1 := hg.len
    refine ⟨B, cb, a, by rw [hl1], by rw [← hl1]; exact hg.from_ From.rfl_, fun z => Iff.rfl, ?_, From.rfl_⟩
    match a, hl1 with
    | [], _ => exact List.Pairwise.nil
    | [p], _ => exact List.pairwise_singleton ..
    | _ :: _ :: _, h => simp at h; omega
  · (try with_reducible first | replace Q1 := of_decide_eq_true Q1 | replace Q1 := of_decide_eq_false Q1 | replace Q1 := bn_t Q1 | replace Q1 := bn_f Q1)
    (try with_reducible first | replace Q1 := of_decide_eq_true Q1 | replace Q1 := of_decide_eq_false Q1 | replace Q1 := bx_t Q1 | replace Q1 := bx_f Q1 | replace Q1 := be_t Q1 | replace Q1 := be_f Q1)
    obtain ⟨bB, oB, rfl, _⟩ := hg.row (by rw [List.length_map, ← hg.len]; omega)
    refine cd_skip ?_
    refine nx_then ?_
    refine cd_seq ?_
    refine cd_region ?_
    refine st_val (ro_move (v := .slice _ _ _) rfl) ?_
    refine st_val (ro_move (v := .slice _ _ _) rfl) ?_
    refine st_val (ro_move (v := .slice _ _ _) rfl) ?_
    refine st_val (ro_len SufRef_l24 rfl) ?_
    refine st_val (ro_quoN (b := 2) rfl rfl (by omega)) ?_
    refine st_val (ro_takeN (m := k / 2) SufRef_e24 rfl rfl (by have := hg.cap; omega)) ?_
    refine st_call SufRef_k8 (copy_n _ _ (k / 2) (a.take (k / 2)) _ ((hg.from_ From.rfl_).take (by omega)) (by rw [List.length_take, ← hg.len]; omega) (by omega)) ?_
    rintro v18 w2 ⟨⟨B18, c18, rfl, hg18⟩, E18⟩
    refine st_call SufRef_k32 (ih (k / 2) (by omega) A B18 c c18 n (a.take (k / 2)) _ (hr.from_ (From.rfl_.next E18)) hn hg18 (fun x h => hx x (List.mem_of_mem_take h)) (hnd.sublist (List.take_sublist _ _)) (by omega)) ?_
    rintro v19 w3 ⟨B19, c19, F19, rfl, hg19, hm19, hp19, E19⟩
    refine st_val (ro_assign (v := .slice _ _ _) rfl) ?_
    refine st_nil ?_
    refine nx_then ?_
    refine cd_seq ?_
    refine cd_region ?_
    refine st_val (ro_move (v := .slice _ _ _) rfl) ?_
    refine st_val (ro_move (v := .slice _ _ _) rfl) ?_
    refine st_val (ro_move (v := .slice _ _ _) rfl) ?_
    refine st_val (ro_len SufRef_l24 rfl) ?_
    refine st_val (ro_quoN (b := 2) rfl rfl (by omega)) ?_
    refine st_val (ro_dropN (m := k / 2) SufRef_e24 rfl rfl (by omega) hg.cap) ?_
    refine st_call SufRef_k8 (copy_n _ _ (k - k / 2) (a.drop (k / 2)) _ ((hg.from_ ((From.rfl_.next E18).next E19)).drop (by omega)) (by rw [List.length_drop, ← hg.len]) (by omega)) ?_
    rintro v26 w4 ⟨⟨B26, c26, rfl, hg26⟩, E26⟩
    refine st_call SufRef_k32 (ih (k - k / 2) (by omega) A B26 c c26 n (a.drop (k / 2)) _ (hr.from_ (((From.rfl_.next E18).next E19).next E26)) hn hg26 (fun x h => hx x (List.mem_of_mem_drop h)) (hnd.sublist (List.drop_sublist _ _)) (by omega)) ?_
    rintro v27 w5 ⟨B27, c27, F27, rfl, hg27, hm27, hp27, E27⟩
    have hBz : From w w5 := ((((From.rfl_.next E18).next E19).next E26).next E27)
    refine st_val (ro_assign (v := .slice _ _ _) rfl) ?_
    refine st_nil ?_
    refine nx_then ?_
    refine cd_seq ?_
    refine cd_region ?_
    refine st_val (ro_assign (v := .slice _ _ _) rfl) ?_
    refine st_nil ?_
    refine nx_then ?_
    refine cd_seq ?_
    refine cd_block ?_
    refine cd_loop (G := List Nat × Option Addr × Nat × List Nat × Option Addr × Nat × List Nat × Option Addr × Nat) [28, 29, 30, 31, 32, 33, 34, 35, 36, 37, 38, 39, 40, 41, 42, 43, 44, 45, 46, 47, 48, 49, 50, 51, 52, 53, 54, 55, 56, 57, 58, 59] (fun (xs, X, cX, ys, Y, cY, out, O, cO) => [(5, .slice X xs.length cX), (6, .slice Y ys.length cY), (7, .slice O out.length cO)]) (fun (xs, X, cX, ys, Y, cY, out, O, cO) w' => Got w5 X xs.length cX xs ∧ Got w5 Y ys.length cY ys ∧ w'.ownsRow (w5).heap.size 3 1 (.slice O out.length cO) out.length ((cI out).map iV) ∧ Mg (L.length + 1) (endT L) a out xs ys ∧ From w5 w') (fun (xs, _, _, ys, _, _, _, _, _) => xs.length + ys.length) ((F19, B19, c19, F27, B27, c27, [], none, 0)) ⟨(by show Value.slice B19 (a.take (k / 2)).length c19 = Value.slice B19 F19.length c19; rw [hg19.len]), (by show Value.slice B27 (a.drop (k / 2)).length c27 = Value.slice B27 F27.length c27; rw [hg27.len]), rfl, trivial⟩ ?_ ?_
    · exact ⟨by rw [← hg19.len]; exact hg19.from_ ((From.rfl_.next E26).next E27), by rw [← hg27.len]; exact hg27, World.ownsRow_nil _ _ _ _, Mg.start hnd hg19.len.symm hm19 hp19 hg27.len.symm hm27 hp27, From.rfl_⟩
    rintro ⟨xs, X, cX, ys, Y, cY, out, O, cO⟩ ρ6 w6 ⟨hX, hY, ho, hM, hFz⟩
    refine cd_seq ?_
    refine cd_seq ?_
    refine cd_region ?_
    refine st_val (ro_move (v := .slice _ _ _) rfl) ?_
    refine st_val (ro_len SufRef_l24 rfl) ?_
    refine st_val (ro_gtr rfl rfl) ?_
    refine st_val (ro_move (v := .bool _) rfl) ?_
    refine st_split (t := 31) rfl (fun Q7 => ?_) (fun Q7 => ?_)
    · (try with_reducible first | replace Q7 := of_decide_eq_true Q7 | replace Q7 := of_decide_eq_false Q7 | replace Q7 := bn_t Q7 | replace Q7 := bn_f Q7)
      (try with_reducible first | replace Q7 := of_decide_eq_true Q7 | replace Q7 := of_decide_eq_false Q7 | replace Q7 := bx_t Q7 | replace Q7 := bx_f Q7 | replace Q7 := be_t Q7 | replace Q7 := be_f Q7)
      refine st_unguard rfl ?_
      refine st_val (ro_move (v := .slice _ _ _) rfl) ?_
      refine st_unguard rfl ?_
      refine st_val (ro_len SufRef_l24 rfl) ?_
      refine st_unguard rfl ?_
      refine st_val (ro_gtr rfl rfl) ?_
      refine st_val (ro_pickT (v := .bool _) rfl rfl) ?_
      refine st_nil ?_
      refine nx_then ?_
      refine cd_cond rfl (fun Q8 => ?_) (fun Q8 => ?_)
      · (try with_reducible first | replace Q8 := of_decide_eq_true Q8 | replace Q8 := of_decide_eq_false Q8 | replace Q8 := bn_t Q8 | replace Q8 := bn_f Q8)
        (try with_reducible first | replace Q8 := of_decide_eq_true Q8 | replace Q8 := of_decide_eq_false Q8 | replace Q8 := bx_t Q8 | replace Q8 := bx_f Q8 | replace Q8 := be_t Q8 | replace Q8 := be_f Q8)
        obtain ⟨x0, xs1, rfl⟩ : ∃ x0 xs1, xs = x0 :: xs1 := List.exists_cons_of_length_pos (by omega)
        obtain ⟨y0, ys1, rfl⟩ : ∃ y0 ys1, ys = y0 :: ys1 := List.exists_cons_of_length_pos (by omega)
        obtain ⟨bX, oX, rfl, hcx, _, hX1⟩ := hX.head
        obtain ⟨bY, oY, rfl, hcy, _, hY1⟩ := hY.head
        refine cd_skip ?_
        refine nx_then ?_
        refine cd_block ?_
        refine cd_seq ?_
        apply cd_drawn 8 [(36, eqp _), (37, eqp _), (38, eqp _), (39, eqp _), (40, eqp _), (41, eqp _), (42, eqp _), (43, fun v _ => ∃ rb, v = .bool rb ∧ (rb = true ↔ sl (L.length + 1) (endT L) x0 y0))] (by kernel_rfl) (by kernel_rfl) ⟨eqp_mono _, eqp_mono _, eqp_mono _, eqp_mono _, eqp_mono _, eqp_mono _, eqp_mono _, (fun _ _ _ _ h => h), trivial⟩
        case hop =>
         refine ⟨?_, ?_⟩
         · intro w10 D10
           show OpOK _ _ _ _ _ _ _
           exact ok_pure (ro_move (v := .slice _ _ _) rfl) rfl
         refine ⟨?_, ?_⟩
         · intro w11 D11
           show OpOK _ _ _ _ _ _ _
           exact ok_pure (ro_move (v := .slice _ _ _) rfl) rfl
         refine ⟨?_, ?_⟩
         · intro w12 D12
           rintro _ rfl
           show OpOK _ _ _ _ _ _ _
           exact ok_pure (ro_indexAddr1 (i := 0) SufRef_e24 rfl rfl (by simp)) rfl
         refine ⟨?_, ?_⟩
         · intro w13 D13
           rintro _ rfl
           show OpOK _ _ _ _ _ _ _
           exact ok_pure (ro_load SufRef_g3 rfl (by exact cellF (hFz.next (From.rfl_.next D13)) hcx)) rfl
         refine ⟨?_, ?_⟩
         · intro w14 D14
           show OpOK _ _ _ _ _ _ _
           exact ok_pure (ro_move (v := .slice _ _ _) rfl) rfl
         refine ⟨?_, ?_⟩
         · intro w15 D15
           rintro _ rfl
           show OpOK _ _ _ _ _ _ _
           exact ok_pure (ro_indexAddr1 (i := 0) SufRef_e24 rfl rfl (by simp)) rfl
         refine ⟨?_, ?_⟩
         · intro w16 D16
           rintro _ rfl
           show OpOK _ _ _ _ _ _ _
           exact ok_pure (ro_load SufRef_g3 rfl (by exact cellF (hFz.next (From.rfl_.next D16)) hcy)) rfl
         refine ⟨?_, ?_⟩
         · intro w17 D17
           rintro _ rfl _ rfl _ rfl
           show OpOK _ _ _ _ _ _ _
           refine ok_call SufRef_k37 ((before_rt A c n x0 y0 L _ (hr.from_ ((hBz.next hFz).next D17)) hn (by omega) (by rw [hn]; exact hx _ ((hM.mem _).2 (.inr (.inl (List.mem_cons_self ..))))) (by rw [hn]; exact hx _ ((hM.mem _).2 (.inr (.inr (List.mem_cons_self ..)))))).mono ?_)
           rintro v _ ⟨⟨rb, rfl, hrb⟩, E⟩
           exact ⟨E, rb, rfl, hrb⟩
         exact trivial
        case hend =>
         intro w18 D18
         rintro _ rfl _ rfl _ rfl _ rfl _ rfl _ rfl _ rfl v43 ⟨rb, rfl, hrb⟩
         show St _ _ _ _ _ _ _
         refine st_nil ?_
         refine nx_then ?_
         refine cd_cond rfl (fun Q19 => ?_) (fun Q19 => ?_)
         · (try with_reducible first | replace Q19 := of_decide_eq_true Q19 | replace Q19 := of_decide_eq_false Q19 | replace Q19 := bn_t Q19 | replace Q19 := bn_f Q19)
           (try with_reducible first | replace Q19 := of_decide_eq_true Q19 | replace Q19 := of_decide_eq_false Q19 | replace Q19 := bx_t Q19 | replace Q19 := bx_f Q19 | replace Q19 := be_t Q19 | replace Q19 := be_f Q19)
           have hrt : rb = true := Q19
           refine cd_seq ?_
           refine cd_region ?_
           refine st_val (ro_move (v := .slice _ _ _) rfl) ?_
           refine st_val (ro_move (v := .slice _ _ _) rfl) ?_
           refine st_val (ro_indexAddr1 (i := 0) SufRef_e24 rfl rfl (by simp)) ?_
           refine st_val (ro_load SufRef_g3 rfl (by exact cellF (hFz.next (From.rfl_.next D18)) hcx)) ?_
           refine st_lit1 (v := .int _ _) SufRef_q24 rfl rfl rfl ?_
           intro b48 w20 E48 hb48 hk48
           have hml := hM.len
           simp only [List.length_cons] at hml
           have hgl := hg.len
           refine st_appendB SufRef_q24 rfl (by decide) rfl (A := O) (xs := (cI out).map iV) (news := [iV (x0 : Nat)]) (ho.kept_from ((From.rfl_.next D18).next E48)) (Nat.le_trans hFz.size (((From.rfl_.next D18).next E48)).size) rfl rfl (fun _ => ⟨b48, 0, rfl, hk48.whole⟩) (fun h => by cases h) (by simp [Value.oneCell']) (by omega) (by omega) ?_
           intro A49 c49 w21 ho49 hg49
           have HF49 := (hFz.next ((From.rfl_.next D18).next E48)).grew hg49 (fun k hk => (own_at ho k hk).1)
           refine st_val (ro_assign (v := .slice _ _ _) rfl) ?_
           refine st_nil ?_
           refine nx_then ?_
           refine cd_region ?_
           refine st_val (ro_move (v := .slice _ _ _) rfl) ?_
           refine st_val (ro_dropN (m := 1) SufRef_e24 rfl rfl (by simp) hX.cap) ?_
           refine st_val (ro_assign (v := .slice _ _ _) rfl) ?_
           refine st_nil ?_
           refine nx_block ?_
           refine nx_cut ((xs1, some ⟨bX, if cX = 1 then oX else oX + 1, none⟩, cX - 1, y0 :: ys1, some ⟨bY, oY, none⟩, cY, out ++ [x0], A49, c49)) ⟨rfl, rfl, (by show Value.slice A49 (out.length + 1) c49 = Value.slice A49 (out ++ [x0]).length c49; rw [List.length_append]; rfl), trivial⟩ (by (iterate 62 refine agr_cons rfl ?_); exact agr_rfl) ⟨?_, ?_⟩
           · exact ⟨hX1, hY, (by rw [List.length_append]; simpa using ho49.kept_from From.rfl_), hM.left (hrb.1 hrt), HF49.next From.rfl_⟩
           · show xs1.length + (y0 :: ys1).length < (x0 :: xs1).length + (y0 :: ys1).length; simp only [List.length_cons]; omega
         · (try with_reducible first | replace Q19 := of_decide_eq_true Q19 | replace Q19 := of_decide_eq_false Q19 | replace Q19 := bn_t Q19 | replace Q19 := bn_f Q19)
           (try with_reducible first | replace Q19 := of_decide_eq_true Q19 | replace Q19 := of_decide_eq_false Q19 | replace Q19 := bx_t Q19 | replace Q19 := bx_f Q19 | replace Q19 := be_t Q19 | replace Q19 := be_f Q19)
           have hyx : sl (L.length + 1) (endT L) y0 x0 := by
             rcases sl_tri (endT_txt L) rfl (show x0 < L.length + 1 by have := hx _ ((hM.mem x0).2 (.inr (.inl (List.mem_cons_self ..)))); omega) (show y0 < L.length + 1 by have := hx _ ((hM.mem y0).2 (.inr (.inr (List.mem_cons_self ..)))); omega) (fun e => hM.dj x0 (List.mem_cons_self ..) (e ▸ List.mem_cons_self ..)) with h | h
             · have := hrb.2 h; simp_all
             · exact h
           refine cd_seq ?_
           refine cd_region ?_
           refine st_val (ro_move (v := .slice _ _ _) rfl) ?_
           refine st_val (ro_move (v := .slice _ _ _) rfl) ?_
           refine st_val (ro_indexAddr1 (i := 0) SufRef_e24 rfl rfl (by simp)) ?_
           refine st_val (ro_load SufRef_g3 rfl (by exact cellF (hFz.next (From.rfl_.next D18)) hcy)) ?_
           refine st_lit1 (v := .int _ _) SufRef_q24 rfl rfl rfl ?_
           intro b56 w22 E56 hb56 hk56
           have hml := hM.len
           simp only [List.length_cons] at hml
           have hgl := hg.len
           refine st_appendB SufRef_q24 rfl (by decide) rfl (A := O) (xs := (cI out).map iV) (news := [iV (y0 : Nat)]) (ho.kept_from ((From.rfl_.next D18).next E56)) (Nat.le_trans hFz.size (((From.rfl_.next D18).next E56)).size) rfl rfl (fun _ => ⟨b56, 0, rfl, hk56.whole⟩) (fun h => by cases h) (by simp [Value.oneCell']) (by omega) (by omega) ?_
           intro A57 c57 w23 ho57 hg57
           have HF57 := (hFz.next ((From.rfl_.next D18).next E56)).grew hg57 (fun k hk => (own_at ho k hk).1)
           refine st_val (ro_assign (v := .slice _ _ _) rfl) ?_
           refine st_nil ?_
           refine nx_then ?_
           refine cd_region ?_
           refine st_val (ro_move (v := .slice _ _ _) rfl) ?_
           refine st_val (ro_dropN (m := 1) SufRef_e24 rfl rfl (by simp) hY.cap) ?_
           refine st_val (ro_assign (v := .slice _ _ _) rfl) ?_
           refine st_nil ?_
           refine nx_block ?_
           refine nx_cut ((x0 :: xs1, some ⟨bX, oX, none⟩, cX, ys1, some ⟨bY, if cY = 1 then oY else oY + 1, none⟩, cY - 1, out ++ [y0], A57, c57)) ⟨rfl, rfl, (by show Value.slice A57 (out.length + 1) c57 = Value.slice A57 (out ++ [y0]).length c57; rw [List.length_append]; rfl), trivial⟩ (by (iterate 62 refine agr_cons rfl ?_); exact agr_rfl) ⟨?_, ?_⟩
           · exact ⟨hX, hY1, (by rw [List.length_append]; simpa using ho57.kept_from From.rfl_), (hM.swap.left hyx).swap, HF57.next From.rfl_⟩
           · show (x0 :: xs1).length + ys1.length < (x0 :: xs1).length + (y0 :: ys1).length; simp only [List.length_cons]; omega
      · (try with_reducible first | replace Q8 := of_decide_eq_true Q8 | replace Q8 := of_decide_eq_false Q8 | replace Q8 := bn_t Q8 | replace Q8 := bn_f Q8)
        (try with_reducible first | replace Q8 := of_decide_eq_true Q8 | replace Q8 := of_decide_eq_false Q8 | replace Q8 := bx_t Q8 | replace Q8 := bx_f Q8 | replace Q8 := be_t Q8 | replace Q8 := be_f Q8)
        have hE : xs = [] ∨ ys = [] := .inr (List.eq_nil_of_length_eq_zero (by omega))
        have hml := hM.len
        have hgl := hg.len
        refine cd_exit ?_
        refine ex_then ?_
        refine ex_then ?_
        refine ex_block ?_
        refine nx_then ?_
        refine cd_seq ?_
        refine cd_region ?_
        refine st_val (ro_move (v := .slice _ _ _) rfl) ?_
        refine st_val (ro_move (v := .slice _ _ _) rfl) ?_
        refine st_appendB SufRef_q24 rfl (by decide) rfl (A := O) (xs := (cI out).map iV) (news := (cI xs).map iV) (ho.kept_from From.rfl_) (Nat.le_trans (hFz).size (From.rfl_).size) rfl (by simp) (fun h0 => (hX.from_ ((hFz).next From.rfl_)).src h0) hX.nil (by simp [Value.oneCell']) (by omega) (by omega) ?_
        intro A62 c62 w24 ho62 hg62
        have HF62 := ((hFz).next From.rfl_).grew hg62 (fun k hk => (own_at ((ho.kept_from From.rfl_)) k hk).1)
        refine st_val (ro_assign (v := .slice _ _ _) rfl) ?_
        refine st_nil ?_
        refine nx_then ?_
        refine cd_seq ?_
        refine cd_region ?_
        refine st_val (ro_move (v := .slice _ _ _) rfl) ?_
        refine st_val (ro_move (v := .slice _ _ _) rfl) ?_
        refine st_appendB SufRef_q24 rfl (by decide) rfl (A := A62) (xs := (cI out).map iV ++ (cI xs).map iV) (news := (cI ys).map iV) (ho62.kept_from From.rfl_) (Nat.le_trans (HF62).size (From.rfl_).size) rfl (by simp) (fun h0 => (hY.from_ ((HF62).next From.rfl_)).src h0) hY.nil (by simp [Value.oneCell']) (by omega) (by omega) ?_
        intro A65 c65 w25 ho65 hg65
        have HF65 := ((HF62).next From.rfl_).grew hg65 (fun k hk => (own_at ((ho62.kept_from From.rfl_)) k hk).1)
        refine st_val (ro_assign (v := .slice _ _ _) rfl) ?_
        refine st_nil ?_
        refine nx_then ?_
        refine cd_ret ?_
        refine res1 (v := .slice _ _ _) rfl rfl ?_
        obtain ⟨f1, f2, f3⟩ := hM.fin hE
        have el : out.length + xs.length + ys.length = a.length := hM.len
        refine ⟨A65, c65, out ++ xs ++ ys, by rw [el], ?_, f2, f3, (hBz.next HF65)⟩
        rw [el] at ho65
        have e66 : (cI (out ++ xs ++ ys)).map iV = (cI out).map iV ++ (cI xs).map iV ++ (cI ys).map iV := by simp [cI]
        rw [← e66] at ho65
        exact Got.own ho65
    · (try with_reducible first | replace Q7 := of_decide_eq_true Q7 | replace Q7 := of_decide_eq_false Q7 | replace Q7 := bn_t Q7 | replace Q7 := bn_f Q7)
      (try with_reducible first | replace Q7 := of_decide_eq_true Q7 | replace Q7 := of_decide_eq_false Q7 | replace Q7 := bx_t Q7 | replace Q7 := bx_f Q7 | replace Q7 := be_t Q7 | replace Q7 := be_f Q7)
      have hE : xs = [] ∨ ys = [] := .inl (List.eq_nil_of_length_eq_zero (by omega))
      have hml := hM.len
      have hgl := hg.len
      refine st_gno rfl rfl ?_
      refine st_gno rfl rfl ?_
      refine st_gno rfl rfl ?_
      refine st_val (ro_pickF (v := .bool _) rfl rfl) ?_
      refine st_nil ?_
      refine nx_then ?_
      refine cd_condF rfl ?_
      refine cd_exit ?_
      refine ex_then ?_
      refine ex_then ?_
      refine ex_block ?_
      refine nx_then ?_
      refine cd_seq ?_
      refine cd_region ?_
      refine st_val (ro_move (v := .slice _ _ _) rfl) ?_
      refine st_val (ro_move (v := .slice _ _ _) rfl) ?_
      refine st_appendB SufRef_q24 rfl (by decide) rfl (A := O) (xs := (cI out).map iV) (news := (cI xs).map iV) (ho.kept_from From.rfl_) (Nat.le_trans (hFz).size (From.rfl_).size) rfl (by simp) (fun h0 => (hX.from_ ((hFz).next From.rfl_)).src h0) hX.nil (by simp [Value.oneCell']) (by omega) (by omega) ?_
      intro A62 c62 w26 ho62 hg62
      have HF62 := ((hFz).next From.rfl_).grew hg62 (fun k hk => (own_at ((ho.kept_from From.rfl_)) k hk).1)
      refine st_val (ro_assign (v := .slice _ _ _) rfl) ?_
      refine st_nil ?_
      refine nx_then ?_
      refine cd_seq ?_
      refine cd_region ?_
      refine st_val (ro_move (v := .slice _ _ _) rfl) ?_
      refine st_val (ro_move (v := .slice _ _ _) rfl) ?_
      refine st_appendB SufRef_q24 rfl (by decide) rfl (A := A62) (xs := (cI out).map iV ++ (cI xs).map iV) (news := (cI ys).map iV) (ho62.kept_from From.rfl_) (Nat.le_trans (HF62).size (From.rfl_).size) rfl (by simp) (fun h0 => (hY.from_ ((HF62).next From.rfl_)).src h0) hY.nil (by simp [Value.oneCell']) (by omega) (by omega) ?_
      intro A65 c65 w27 ho65 hg65
      have HF65 := ((HF62).next From.rfl_).grew hg65 (fun k hk => (own_at ((ho62.kept_from From.rfl_)) k hk).1)
      refine st_val (ro_assign (v := .slice _ _ _) rfl) ?_
      refine st_nil ?_
      refine nx_then ?_
      refine cd_ret ?_
      refine res1 (v := .slice _ _ _) rfl rfl ?_
      obtain ⟨f1, f2, f3⟩ := hM.fin hE
      have el : out.length + xs.length + ys.length = a.length := hM.len
      refine ⟨A65, c65, out ++ xs ++ ys, by rw [el], ?_, f2, f3, (hBz.next HF65)⟩
      rw [el] at ho65
      have e66 : (cI (out ++ xs ++ ys)).map iV = (cI out).map iV ++ (cI xs).map iV ++ (cI ys).map iV := by simp [cI]
      rw [← e66] at ho65
      exact Got.own ho65
theorem rsorted_rt (L : List Nat) (hL : L.length ≤ 131072) : ∀ (k : Nat) (A B : Option Addr) (c cb n : Nat) (a : List Nat) (w : World), RowOf iV w A (cI L) → n = L.length → Got w B k cb a → (∀ x ∈ a, x < L.length) → a.Nodup → k ≤ 131072 → Rt Try.prog 32 [.slice A n c, .slice B k cb] w fun v w' => SortedA w w' (L.length + 1) (endT L) a v := by
  intro k
  induction k using Nat.strongRecOn with
  | _ k ih => exact rsorted_w L hL k ih
end Go.Proofs.Ytpafbgdbjambgaa
