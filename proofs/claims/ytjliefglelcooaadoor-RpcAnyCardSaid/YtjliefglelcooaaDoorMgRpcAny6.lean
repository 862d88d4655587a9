/- rpc: message, Decode. -/
import Derived.Test.YtjliefglelcooaaDoorMgRpcAny5
namespace Go.Proofs.YtjliefglelcooaaDoor
open Go.RowKit
open Go.ChangeShapes Go.WideShapes Go.ChangeAt
theorem RpcDec_e46 : elemQ Tryd.prog 46 = some (9, 1) := by kernel_rfl
theorem RpcDec_o27 : zeroQ Tryd.prog 27 = some (.agg #[.int .i64 0, .int .i64 0, .int .i64 0, .int .i64 0, .int .i64 0, .int .i64 0, .int .i64 0, .int .i64 0, .bool false, .slice none 0 0, .int .i64 0, .string ⟨#[]⟩, .bool false]) := by kernel_rfl
theorem RpcDec_q64 : litQ Tryd.prog 64 = some (3, 1, 8, (.int .i64 0)) := by kernel_rfl
theorem RpcDec_q46 : litQ Tryd.prog 46 = some (9, 1, 16, (.string ⟨#[]⟩)) := by kernel_rfl
theorem RpcDec_q25 : litQ Tryd.prog 25 = some (41, 3, 32, (.agg #[.int .i64 0, .int .i64 0, .string ⟨#[]⟩])) := by kernel_rfl
theorem RpcDec_g3 : aggQ Tryd.prog 3 = some false := by kernel_rfl
theorem RpcDec_g9 : aggQ Tryd.prog 9 = some false := by kernel_rfl
theorem RpcDec_g25 : aggQ Tryd.prog 25 = some false := by kernel_rfl
theorem RpcDec_z25 : sizeQ Tryd.prog 25 = some 1 := by kernel_rfl
theorem RpcDec_k26 : callable Tryd.prog 26 = true := by kernel_rfl
theorem RpcDec_k34 : callable Tryd.prog 34 = true := by kernel_rfl
theorem RpcDec_l46 : (elemQ Tryd.prog 46).isSome = true := by kernel_rfl
theorem RpcDec_b27_ : Tryd.prog.built 27 [] = some #[.int .i64 0, .int .i64 0, .int .i64 0, .int .i64 0, .int .i64 0, .int .i64 0, .int .i64 0, .int .i64 0, .bool false, .slice none 0 0, .int .i64 0, .string ⟨#[]⟩, .bool false] := by kernel_rfl
theorem RpcDec_z27 : sizeQ Tryd.prog 27 = some 13 := by kernel_rfl
theorem RpcDec_g27 : aggQ Tryd.prog 27 = some true := by kernel_rfl
theorem RpcDec_e64 : elemQ Tryd.prog 64 = some (3, 1) := by kernel_rfl
theorem RpcDec_b27_0_1_2_3_4_5_6_7_10_8_12_11 : ∀ (a0 : Int) (a1 : Int) (a2 : Int) (a3 : Int) (a4 : Int) (a5 : Int) (a6 : Int) (a7 : Int) (a8 : Bool) (a9 : Int) (a10 : ByteArray) (a11 : Bool), Tryd.prog.built 27 [(0, .int .i64 a0), (1, .int .i64 a1), (2, .int .i64 a2), (3, .int .i64 a3), (4, .int .i64 a4), (5, .int .i64 a5), (6, .int .i64 a6), (7, .int .i64 a7), (10, .int .i64 a9), (8, .bool a8), (12, .bool a11), (11, .string a10)] = some #[.int .i64 a0, .int .i64 a1, .int .i64 a2, .int .i64 a3, .int .i64 a4, .int .i64 a5, .int .i64 a6, .int .i64 a7, .bool a8, .slice none 0 0, .int .i64 a9, .string a10, .bool a11] := by intros; kernel_rfl
theorem RpcDec_f27_9 : fieldQ Tryd.prog 27 9 = some 9 := by kernel_rfl
theorem RpcDec_b41_0_1_2 : ∀ (a0 : Int) (a1 : Int) (a2 : ByteArray), Tryd.prog.built 41 [(0, .int .i64 a0), (1, .int .i64 a1), (2, .string a2)] = some #[.int .i64 a0, .int .i64 a1, .string a2] := by intros; kernel_rfl
theorem ok_gval {P : Program} {ops : Array Oper} {n : Nat} {L : List (Nat × Value)} {w w' : World} {op : Op} {ty : TypeId} {pos : String} {after : Array Edge} {d : Option Nat} {R : Value → World → Prop} {v : Value} {j : Nat} {b : Bool} (hg : wantQ ops n L j = .bool b) (hr : RO P (ev n L) op w v w') (hF : From w w') (hR : R v w') : OpOK P ops n L ⟨d, op, ty, pos, after, some (j, b)⟩ w R :=
  .inl ⟨by show (yielded ops (mkT n L) j == some b) = true; rw [yielded_mkT hg]; simp, .inl ⟨v, w', hr _ _ _ _ _, hF, hR⟩⟩
def sAt (ss : List ByteArray) (q : Nat) : ByteArray := ss.getD q ⟨#[]⟩
theorem sAt_is {ss : List ByteArray} {q : Nat} (h : q < ss.length) : sAt ss q = ss[q] := by
  unfold sAt
  rw [List.getD_eq_getElem?_getD, List.getElem?_eq_getElem h]
  rfl
theorem allN2 {x y : ByteArray} : allN [x, y] ↔ (numS x).isSome = true ∧ (numS y).isSome = true := by simp [allN]
def entsS : List ByteArray → Option (List Ent)
  | [] => some []
  | x :: y :: z :: r => if (numS x).isSome = true ∧ (numS y).isSome = true then (entsS r).map fun es => ⟨(nv x : Nat), (nv y : Nat), z⟩ :: es else none
  | _ => none
def goodS (ss : List ByteArray) (es : List Ent) : Prop := 12 ≤ ss.length ∧ allN (ss.take 11) ∧ nv (sAt ss 9) ≤ 1 ∧ nv (sAt ss 10) ≤ 1 ∧ entsS (ss.drop 12) = some es
theorem entsS_len : ∀ {ss : List ByteArray} {es : List Ent}, entsS ss = some es → ss.length = 3 * es.length
  | [], es, h => by
    cases h
    rfl
  | [_], _, h => by cases h
  | [_, _], _, h => by cases h
  | x :: y :: z :: r, es, h => by
    unfold entsS at h
    split at h
    · cases hr : entsS r with
      | none => rw [hr] at h; cases h
      | some es2 =>
        rw [hr] at h
        cases h
        have := entsS_len hr
        simp only [List.length_cons]
        omega
    · cases h
theorem entsS_bad {x y z : ByteArray} {r : List ByteArray} (h : ¬ allN [x, y]) : entsS (x :: y :: z :: r) = none := by
  show (if (numS x).isSome = true ∧ (numS y).isSome = true then _ else _) = _
  rw [if_neg (fun a => h (allN2.2 a))]
theorem rowO_take {α : Type} {f : α → Value} {w : World} {A : Option Addr} {l : List α} {m : Nat} (h : RowOf f w A l) : RowOf f w A (l.take m) := fun h0 => by
  rw [List.length_take] at h0
  obtain ⟨b, o, hA, hc⟩ := h (by omega)
  exact ⟨b, o, hA, fun i hi => by
    rw [List.length_take] at hi
    rw [List.getElem_take]
    exact hc i (by omega)⟩
theorem rowO_drop {α : Type} {f : α → Value} {w : World} {b o c : Nat} {l : List α} {m : Nat} (h : RowOf f w (some ⟨b, o, none⟩) l) (hc : l.length ≤ c) (hm : m ≤ l.length) : RowOf f w (some ⟨b, if c = m then o else o + m, none⟩) (l.drop m) := fun h0 => by
  rw [List.length_drop] at h0
  obtain ⟨b', o', hA, hcs⟩ := h (by omega)
  simp only [Option.some.injEq, Addr.mk.injEq, and_true] at hA
  obtain ⟨rfl, rfl⟩ := hA
  refine ⟨b, o + m, by rw [if_neg (by omega)], fun i hi => ?_⟩
  rw [List.length_drop] at hi
  rw [List.getElem_drop, Nat.add_assoc]
  exact hcs (m + i) (by omega)
theorem str_at {w : World} {b o : Nat} {ss : List ByteArray} (h : RowOf .string w (some ⟨b, o, none⟩) ss) (q : Nat) (hq : q < ss.length) : w.cell? ⟨b, o + q, none⟩ = some (.string (sAt ss q)) := by
  obtain ⟨b', o', hA, hc⟩ := h (by omega)
  cases hA
  rw [sAt_is hq]
  exact hc q hq
theorem own_nv {w : World} {base e g n c : Nat} {ss : List ByteArray} (h : w.ownsRow base e 1 (.slice (some ⟨g, 0, none⟩) n c) n (ss.map fun s => .int .i64 (nv s : Nat))) (q : Nat) (hq : q < ss.length) : w.cell? ⟨g, q, none⟩ = some (.int .i64 (nv (sAt ss q) : Nat)) := by
  rw [own_cell h q hq, sAt_is hq]
theorem sAt_take {ss : List ByteArray} {q m : Nat} (h : q < m) (hm : m ≤ ss.length) : sAt (ss.take m) q = sAt ss q := by
  rw [sAt_is (by rw [List.length_take]; omega), sAt_is (by omega), List.getElem_take]
/-- parseNums, its answer by a bool -/
theorem parse_b (A : Option Addr) (c n : Nat) (ss : List ByteArray) (w : World) (hn : n = ss.length) (hr : RowOf .string w A ss) (hs : ∀ s ∈ ss, s.size ≤ 140737488351232) (hl : ss.length ≤ 100000000) :
    Rt Tryd.prog 34 [.slice A n c] w fun v w' => (∃ A' m c' b, v = .tuple #[.slice A' m c', .bool b] ∧ ((b = true ∧ allN ss ∧ m = n ∧ w'.ownsRow w.heap.size 3 1 (.slice A' m c') m (ss.map fun s => .int .i64 (nv s : Nat))) ∨ (b = false ∧ ¬ allN ss))) ∧ From w w' :=
  (parse_r A c n ss w hn hr hs hl).mono fun v w' ⟨h, hF⟩ => ⟨by
    rcases h with ⟨ha, A', c', rfl, ho⟩ | ⟨ha, rfl⟩
    · exact ⟨A', n, c', true, rfl, .inl ⟨rfl, ha, rfl, ho⟩⟩
    · exact ⟨none, 0, 0, false, rfl, .inr ⟨rfl, ha⟩⟩, hF⟩
theorem parse_yes (A : Option Addr) (c n : Nat) (ss : List ByteArray) (w : World) (hn : n = ss.length) (hr : RowOf .string w A ss) (hs : ∀ s ∈ ss, s.size ≤ 140737488351232) (hl : ss.length ≤ 100000000) (ha : allN ss) :
    Rt Tryd.prog 34 [.slice A n c] w fun v w' => (∃ A' c', v = .tuple #[.slice A' n c', .bool true] ∧ w'.ownsRow w.heap.size 3 1 (.slice A' n c') n (ss.map fun s => .int .i64 (nv s : Nat))) ∧ From w w' :=
  (parse_r A c n ss w hn hr hs hl).mono fun v w' ⟨h, hF⟩ => ⟨by
    rcases h with ⟨_, A', c', rfl, ho⟩ | ⟨hb, rfl⟩
    · exact ⟨A', c', rfl, ho⟩
    · exact absurd ha hb, hF⟩
theorem parse_no (A : Option Addr) (c n : Nat) (ss : List ByteArray) (w : World) (hn : n = ss.length) (hr : RowOf .string w A ss) (hs : ∀ s ∈ ss, s.size ≤ 140737488351232) (hl : ss.length ≤ 100000000) (ha : ¬ allN ss) :
    Rt Tryd.prog 34 [.slice A n c] w fun v w' => v = .tuple #[.slice none 0 0, .bool false] ∧ From w w' :=
  (parse_r A c n ss w hn hr hs hl).mono fun v w' ⟨h, hF⟩ => ⟨by
    rcases h with ⟨hb, A', c', rfl, ho⟩ | ⟨hb, rfl⟩
    · exact absurd hb ha
    · rfl, hF⟩
theorem row2 {w : World} {g : Nat} {t : TypeId} {x y : ByteArray} (h : Blk w g t #[.string x, .string y]) : RowOf Value.string w (some ⟨g, 0, none⟩) [x, y] := RowOf.blk h fun i hi => by
  match i, hi with
  | 0, _ => rfl
  | 1, _ => rfl
theorem entV_snoc (xs : List Ent) (i t : Int) (d : ByteArray) : entV (xs ++ [⟨i, t, d⟩]) = entV xs ++ [.int .i64 i, .int .i64 t, .string d] := by rw [entV_append]; rfl
theorem own_grown2 {w w' : World} {base e s n c : Nat} {A : Option Addr} {xs : List Value} {r : Option Nat} (h : w.ownsRow base e s (.slice A n c) n xs) (hg : w.grownBy w' r) (hne : ∀ k, r = some k → ∀ q, A.map (·.block) = some q → k ≠ q) : w'.ownsRow base e s (.slice A n c) n xs := by
  refine ⟨h.1, ?_⟩
  rcases h.2 with h0 | ⟨g, cap, cur, h1, h2, h3, h4⟩
  · exact .inl h0
  · refine .inr ⟨g, cap, cur, h1, h2, ?_, h4⟩
    simp only [Value.slice.injEq] at h1
    obtain ⟨rfl, _, _⟩ := h1
    have hlt : g < w.heap.size := by
      rcases Nat.lt_or_ge g w.heap.size with a | a
      · exact a
      · rw [Array.getElem?_eq_none a] at h3; cases h3
    exact (hg.block g hlt fun e => hne g e.symm g rfl rfl).trans h3
theorem own_other {w : World} {base base2 e e2 s s2 n n2 c c2 : Nat} {A A2 : Option Addr} {xs ys : List Value} (h : w.ownsRow base e s (.slice A n c) n xs) (h2 : w.ownsRow base2 e2 s2 (.slice A2 n2 c2) n2 ys) (hne : e ≠ e2) : ∀ k, A.map (·.block) = some k → ∀ q, A2.map (·.block) = some q → k ≠ q := by
  intro k hk q hq
  rcases h2.2 with ⟨h0, _⟩ | ⟨g, cap, cur, h1, _, h3, _⟩
  · simp only [Value.slice.injEq] at h0
    obtain ⟨rfl, _, _⟩ := h0
    cases hq
  · simp only [Value.slice.injEq] at h1
    obtain ⟨rfl, _, _⟩ := h1
    cases hq
    exact own_off h (show Blk w g e2 cur from h3) (Ne.symm hne) k hk
set_option maxRecDepth 200000 in
set_option maxHeartbeats 4000000 in
theorem message_r (A : Option Addr) (c n : Nat) (ss : List ByteArray) (w : World) (hn : n = ss.length) (hnc : ss.length ≤ c) (hr : RowOf Value.string w A ss) (hs : ∀ s ∈ ss, s.size ≤ 140737488351232) (hl : ss.length ≤ 100000000) :
    Rt Tryd.prog 18 [.slice A n c] w (fun v w' => ((∃ es, goodS ss es ∧ ∃ A' c', v = .tuple #[.agg #[.int .i64 (nv (sAt ss 0) : Nat), .int .i64 (nv (sAt ss 1) : Nat), .int .i64 (nv (sAt ss 2) : Nat), .int .i64 (nv (sAt ss 3) : Nat), .int .i64 (nv (sAt ss 4) : Nat), .int .i64 (nv (sAt ss 5) : Nat), .int .i64 (nv (sAt ss 6) : Nat), .int .i64 (nv (sAt ss 7) : Nat), .bool (((nv (sAt ss 9) : Nat) : Int) == 1), .slice A' es.length c', .int .i64 (nv (sAt ss 8) : Nat), .string (sAt ss 11), .bool (((nv (sAt ss 10) : Nat) : Int) == 1)], .bool true] ∧ w'.ownsRow w.heap.size 41 3 (.slice A' es.length c') es.length (entV es)) ∨ ((∀ es, ¬ goodS ss es) ∧ v = .tuple #[.agg #[.int .i64 0, .int .i64 0, .int .i64 0, .int .i64 0, .int .i64 0, .int .i64 0, .int .i64 0, .int .i64 0, .bool false, .slice none 0 0, .int .i64 0, .string ⟨#[]⟩, .bool false], .bool false])) ∧ From w w') := by
  subst hn
  refine enter (n := 117) Tryd.func18 rfl rfl rfl ?_
  refine cd_seq ?_
  refine cd_region ?_
  refine st_alloc RpcDec_o27 ?_
  intro b2 w1 E2 hb2 hk2
  have hg2 : w.heap.size ≤ b2 := by rw [hb2]; exact Nat.le_refl _
  refine st_val (ro_assign (v := .bool _) rfl) ?_
  refine st_nil ?_
  refine nx_then ?_
  refine cd_seq ?_
  refine cd_seq ?_
  refine cd_region ?_
  refine st_val (ro_move (v := .slice _ _ _) rfl) ?_
  refine st_val (ro_len RpcDec_l46 rfl) ?_
  refine st_val (ro_lss rfl rfl) ?_
  refine st_val (ro_move (v := .bool _) rfl) ?_
  refine st_split (t := 12) rfl (fun Q2 => ?_) (fun Q2 => ?_)
  · (try first | replace Q2 := bn_t Q2 | replace Q2 := bn_f Q2)
    (try first | replace Q2 := bx_t Q2 | replace Q2 := bx_f Q2 | replace Q2 := be_t Q2 | replace Q2 := be_f Q2 | replace Q2 := of_decide_eq_true Q2 | replace Q2 := of_decide_eq_false Q2)
    first
     | (exfalso; first | omega | contradiction | (cases Q2; done))
     | skip
       refine st_gno rfl rfl ?_
       refine st_gno rfl rfl ?_
       refine st_gno rfl rfl ?_
       refine st_gno rfl rfl ?_
       refine st_gno rfl rfl ?_
       refine st_gno rfl rfl ?_
       refine st_val (ro_pickT (v := .bool _) rfl rfl) ?_
       refine st_nil ?_
       refine nx_then ?_
       refine cd_condT rfl ?_
       refine cd_seq ?_
       refine cd_region ?_
       refine st_val (ro_build (l := []) (RpcDec_b27_)) ?_
       refine st_putW (vs := [_, _, _, _, _, _, _, _, _, _, _, _, _]) RpcDec_z27 rfl rfl (by simp [Value.oneCell']) ((hk2.from_ From.rfl_)) rfl ?_
       intro w3 O2 P2
       refine st_val (ro_assign (v := .bool _) rfl) ?_
       refine st_nil ?_
       refine nx_then ?_
       refine cd_ret ?_
       refine rt_then ?_
       refine resr2 rfl (rv_cellA (cs := [_, _, _, _, _, _, _, _, _, _, _, _, _]) RpcDec_g27 RpcDec_z27 rfl (by first | exact P2.whole | exact P5.whole | exact P12.whole | exact P14.whole)) (rv_tmp (v := .bool _) rfl) ?_
       exact ⟨.inr ⟨fun es hg => (by have h1 := hg.1; have h2 := entsS_len hg.2.2.2.2; rw [List.length_drop] at h2; omega), rfl⟩, ((From.rfl_.next E2).only O2 (hg2))⟩
  · (try first | replace Q2 := bn_t Q2 | replace Q2 := bn_f Q2)
    (try first | replace Q2 := bx_t Q2 | replace Q2 := bx_f Q2 | replace Q2 := be_t Q2 | replace Q2 := be_f Q2 | replace Q2 := of_decide_eq_true Q2 | replace Q2 := of_decide_eq_false Q2)
    have h12 : 12 ≤ ss.length := by omega
    obtain ⟨b0, o0, rfl, hcs⟩ := hr (by omega)
    have hrow : RowOf Value.string w (some ⟨b0, o0, none⟩) ss := hr
    first
     | (exfalso; first | omega | contradiction | (cases Q2; done))
     | skip
       refine st_unguard rfl ?_
       refine st_val (ro_move (v := .slice _ _ _) rfl) ?_
       refine st_unguard rfl ?_
       refine st_val (ro_len RpcDec_l46 rfl) ?_
       refine st_unguard rfl ?_
       refine st_val (ro_subN (b := 11) rfl rfl (by omega)) ?_
       refine st_unguard rfl ?_
       refine st_val (ro_subN (b := 1) rfl rfl (by omega)) ?_
       refine st_unguard rfl ?_
       refine st_val (ro_remN (b := 3) rfl rfl (by decide)) ?_
       refine st_unguard rfl ?_
       refine st_val (ro_neq rfl rfl) ?_
       refine st_val (ro_pickF (v := .bool _) rfl rfl) ?_
       refine st_nil ?_
       refine nx_then ?_
       refine cd_cond rfl (fun Q4 => ?_) (fun Q4 => ?_)
       · (try first | replace Q4 := bn_t Q4 | replace Q4 := bn_f Q4)
         (try first | replace Q4 := bx_t Q4 | replace Q4 := bx_f Q4 | replace Q4 := be_t Q4 | replace Q4 := be_f Q4 | replace Q4 := of_decide_eq_true Q4 | replace Q4 := of_decide_eq_false Q4)
         first
          | (exfalso; first | omega | contradiction | (cases Q4; done))
          | skip
            refine cd_seq ?_
            refine cd_region ?_
            refine st_val (ro_build (l := []) (RpcDec_b27_)) ?_
            refine st_putW (vs := [_, _, _, _, _, _, _, _, _, _, _, _, _]) RpcDec_z27 rfl rfl (by simp [Value.oneCell']) ((hk2.from_ From.rfl_)) rfl ?_
            intro w5 O2 P2
            refine st_val (ro_assign (v := .bool _) rfl) ?_
            refine st_nil ?_
            refine nx_then ?_
            refine cd_ret ?_
            refine rt_then ?_
            refine resr2 rfl (rv_cellA (cs := [_, _, _, _, _, _, _, _, _, _, _, _, _]) RpcDec_g27 RpcDec_z27 rfl (by first | exact P2.whole | exact P5.whole | exact P12.whole | exact P14.whole)) (rv_tmp (v := .bool _) rfl) ?_
            exact ⟨.inr ⟨fun es hg => (by have h1 := hg.1; have h2 := entsS_len hg.2.2.2.2; rw [List.length_drop] at h2; omega), rfl⟩, ((From.rfl_.next E2).only O2 (hg2))⟩
       · (try first | replace Q4 := bn_t Q4 | replace Q4 := bn_f Q4)
         (try first | replace Q4 := bx_t Q4 | replace Q4 := bx_f Q4 | replace Q4 := be_t Q4 | replace Q4 := be_f Q4 | replace Q4 := of_decide_eq_true Q4 | replace Q4 := of_decide_eq_false Q4)
         first
          | (exfalso; first | omega | contradiction | (cases Q4; done))
          | skip
            refine cd_skip ?_
            refine nx_then ?_
            refine cd_seq ?_
            refine cd_region ?_
            refine st_val (ro_move (v := .slice _ _ _) rfl) ?_
            refine st_val (ro_takeN (m := 11) RpcDec_e46 rfl rfl (by omega)) ?_
            refine st_call RpcDec_k34 (parse_b (some ⟨b0, o0, none⟩) c 11 (ss.take 11) _ (by rw [List.length_take]; omega) ((rowO_take hrow).from_ (From.rfl_.next E2)) (fun s h => hs s (List.mem_of_mem_take h)) (by rw [List.length_take]; omega)) ?_
            rintro v24 w6 ⟨⟨A4, m4, c4, bo4, rfl, hp24⟩, E24⟩
            refine st_val (ro_move (v := .tuple _) rfl) ?_
            refine st_val (ro_extract rfl rfl) ?_
            refine st_val (ro_extract rfl rfl) ?_
            refine st_val (ro_assign (v := .slice _ _ _) rfl) ?_
            refine st_val (ro_assign (v := .bool _) rfl) ?_
            refine st_nil ?_
            refine nx_then ?_
            refine cd_seq ?_
            refine cd_seq ?_
            rcases hp24 with ⟨rfl, hall, rfl, ho4⟩ | ⟨rfl, hall⟩
            · obtain ⟨g4, rfl⟩ := own_some ho4 (by omega)
              replace ho4 := own_le ho4 E2.size
              have hl11 : (ss.take 11).length = 11 := by rw [List.length_take]; omega
              apply cd_drawn 13 [(27, eqp _), (28, eqp _), (29, eqp _), (30, eqp _), (31, eqp _), (32, eqp _), (33, eqp _), (34, eqp _), (35, eqp _), (36, fun v w' => ∃ g, v = .slice (some ⟨g, 0, none⟩) 2 2 ∧ Blk w' g 3 ([((nv (sAt ss 9) : Nat) : Int), ((nv (sAt ss 10) : Nat) : Int)].map iV).toArray), (37, eqp _), (38, eqp _), (39, eqp _)] (by kernel_rfl) (by kernel_rfl) ⟨eqp_mono _, eqp_mono _, eqp_mono _, eqp_mono _, eqp_mono _, eqp_mono _, eqp_mono _, eqp_mono _, eqp_mono _, (fun _ _ _ hF ⟨g, h1, h2⟩ => ⟨g, h1, h2.from_ hF⟩), eqp_mono _, eqp_mono _, eqp_mono _, trivial⟩
              case hop =>
               refine ⟨?_, ?_⟩
               · intro w8 D8
                 show OpOK _ _ _ _ _ _ _
                 exact ok_pure (ro_move rfl) rfl
               refine ⟨?_, ?_⟩
               · intro w9 D9
                 rintro _ rfl
                 show OpOK _ _ _ _ _ _ _
                 exact ok_pure (ro_not rfl) rfl
               refine ⟨?_, ?_⟩
               · intro w10 D10
                 rintro _ rfl
                 show OpOK _ _ _ _ _ _ _
                 exact ok_pure (ro_move rfl) rfl
               refine ⟨?_, ?_⟩
               · intro w11 D11
                 rintro _ rfl
                 show OpOK _ _ _ _ _ _ _
                 exact ok_gpure rfl (ro_move (v := .slice _ _ _) rfl) rfl
               refine ⟨?_, ?_⟩
               · intro w12 D12
                 rintro _ rfl _ rfl
                 show OpOK _ _ _ _ _ _ _
                 exact ok_gpure rfl (ro_indexAddr0 (i := 9) RpcDec_e64 rfl rfl (by omega)) rfl
               refine ⟨?_, ?_⟩
               · intro w13 D13
                 rintro _ rfl _ rfl
                 show OpOK _ _ _ _ _ _ _
                 exact ok_gpure rfl (ro_load RpcDec_g3 rfl ((own_nv (ho4.kept_from D13) 9 (by omega)).trans (by rw [sAt_take (by omega) (by omega)]))) rfl
               refine ⟨?_, ?_⟩
               · intro w14 D14
                 rintro _ rfl
                 show OpOK _ _ _ _ _ _ _
                 exact ok_gpure rfl (ro_move (v := .slice _ _ _) rfl) rfl
               refine ⟨?_, ?_⟩
               · intro w15 D15
                 rintro _ rfl _ rfl
                 show OpOK _ _ _ _ _ _ _
                 exact ok_gpure rfl (ro_indexAddr0 (i := 10) RpcDec_e64 rfl rfl (by omega)) rfl
               refine ⟨?_, ?_⟩
               · intro w16 D16
                 rintro _ rfl _ rfl
                 show OpOK _ _ _ _ _ _ _
                 exact ok_gpure rfl (ro_load RpcDec_g3 rfl ((own_nv (ho4.kept_from D16) 10 (by omega)).trans (by rw [sAt_take (by omega) (by omega)]))) rfl
               refine ⟨?_, ?_⟩
               · intro w17 D17
                 rintro _ rfl _ rfl _ rfl
                 show OpOK _ _ _ _ _ _ _
                 exact ok_gval rfl (ro_lits [.tmp 32, .tmp 35] [.int .i64 (nv (sAt ss 9) : Nat), .int .i64 (nv (sAt ss 10) : Nat)] RpcDec_q64 rfl rfl rfl rfl (by simp [Value.cells])) (From.rfl_.new _) ⟨_, rfl, Blk.new _ _ _⟩
               refine ⟨?_, ?_⟩
               · intro w18 D18
                 rintro _ rfl v18_36 ⟨g18, rfl, hg18⟩
                 show OpOK _ _ _ _ _ _ _
                 refine ok_gcall rfl RpcDec_k26 ((within_l 0 1 g18 2 2 [((nv (sAt ss 9) : Nat) : Int), ((nv (sAt ss 10) : Nat) : Int)] _ rfl hg18 (by simp)).mono ?_)
                 rintro v _ ⟨rfl, rfl⟩
                 exact ⟨From.rfl_, rfl⟩
               refine ⟨?_, ?_⟩
               · intro w19 D19
                 rintro _ rfl _ rfl
                 show OpOK _ _ _ _ _ _ _
                 exact ok_gpure rfl (ro_not rfl) rfl
               refine ⟨?_, ?_⟩
               · intro w20 D20
                 rintro _ rfl _ rfl
                 show OpOK _ _ _ _ _ _ _
                 exact ok_pure (ro_pickF (v := .bool _) rfl rfl) rfl
               exact trivial
              case hend =>
               intro w21 D21
               rintro _ rfl _ rfl _ rfl _ rfl _ rfl _ rfl _ rfl _ rfl _ rfl v36 ⟨g21, rfl, hg21⟩ _ rfl _ rfl _ rfl
               show St _ _ _ _ _ _ _
               replace ho4 := ho4.kept_from D21
               refine st_nil ?_
               refine nx_then ?_
               refine cd_cond rfl (fun Q22 => ?_) (fun Q22 => ?_)
               · (try first | replace Q22 := bn_t Q22 | replace Q22 := bn_f Q22)
                 (try first | replace Q22 := bx_t Q22 | replace Q22 := bx_f Q22 | replace Q22 := be_t Q22 | replace Q22 := be_f Q22 | replace Q22 := of_decide_eq_true Q22 | replace Q22 := of_decide_eq_false Q22)
                 simp only [Bool.not_eq_true', decide_eq_false_iff_not, List.map_cons, List.map_nil, allIn_cons, allIn_nil, and_true] at Q22
                 first
                  | (exfalso; first | omega | contradiction | (cases Q22; done))
                  | skip
                    refine cd_seq ?_
                    refine cd_region ?_
                    refine st_val (ro_build (l := []) (RpcDec_b27_)) ?_
                    refine st_putW (vs := [_, _, _, _, _, _, _, _, _, _, _, _, _]) RpcDec_z27 rfl rfl (by simp [Value.oneCell']) ((hk2.from_ ((From.rfl_.next E24).next D21))) rfl ?_
                    intro w23 O5 P5
                    refine st_val (ro_assign (v := .bool _) rfl) ?_
                    refine st_nil ?_
                    refine nx_then ?_
                    refine cd_ret ?_
                    refine rt_then ?_
                    refine resr2 rfl (rv_cellA (cs := [_, _, _, _, _, _, _, _, _, _, _, _, _]) RpcDec_g27 RpcDec_z27 rfl (by first | exact P2.whole | exact P5.whole | exact P12.whole | exact P14.whole)) (rv_tmp (v := .bool _) rfl) ?_
                    first
                      | exact ⟨.inr ⟨fun es hg => hall hg.2.1, rfl⟩, ((((From.rfl_.next E2).next E24).next D21).only O5 (hg2))⟩
                      | exact ⟨.inr ⟨fun es hg => (by have h1 := hg.2.2.1; have h2 := hg.2.2.2.1; omega), rfl⟩, ((((From.rfl_.next E2).next E24).next D21).only O5 (hg2))⟩
               · (try first | replace Q22 := bn_t Q22 | replace Q22 := bn_f Q22)
                 (try first | replace Q22 := bx_t Q22 | replace Q22 := bx_f Q22 | replace Q22 := be_t Q22 | replace Q22 := be_f Q22 | replace Q22 := of_decide_eq_true Q22 | replace Q22 := of_decide_eq_false Q22)
                 simp only [Bool.not_eq_false', decide_eq_true_eq, List.map_cons, List.map_nil, allIn_cons, allIn_nil, and_true] at Q22
                 first
                  | (exfalso; first | omega | contradiction | (cases Q22; done))
                  | skip
                    refine cd_skip ?_
                    refine nx_then ?_
                    refine cd_seq ?_
                    apply cd_drawnD 40 [(41, eqp _), (42, eqp _), (43, eqp _), (44, eqp _), (45, eqp _), (46, eqp _), (47, eqp _), (48, eqp _), (49, eqp _), (50, eqp _), (51, eqp _), (52, eqp _), (53, eqp _), (54, eqp _), (55, eqp _), (56, eqp _), (57, eqp _), (58, eqp _), (59, eqp _), (60, eqp _), (61, eqp _), (62, eqp _), (63, eqp _), (64, eqp _), (65, eqp _), (66, eqp _), (67, eqp _), (68, eqp _), (69, eqp _), (70, eqp _), (71, eqp _), (72, eqp _), (73, eqp _), (74, eqp _), (75, eqp _), (76, eqp _), (77, eqp _), (78, eqp _), (79, eqp _), (6, fun v w' => ∃ b, v = .pointer (some ⟨b, 0, none⟩) ∧ (w.heap.size ≤ b ∧ b2 < b) ∧ Blk w' b 27 #[.int .i64 0, .int .i64 0, .int .i64 0, .int .i64 0, .int .i64 0, .int .i64 0, .int .i64 0, .int .i64 0, .bool false, .slice none 0 0, .int .i64 0, .string ⟨#[]⟩, .bool false])] (by repeat first | exact pq_body | refine pq_then ?_ | refine pq_block ?_) (by kernel_rfl) (by kernel_rfl) ⟨eqp_mono _, eqp_mono _, eqp_mono _, eqp_mono _, eqp_mono _, eqp_mono _, eqp_mono _, eqp_mono _, eqp_mono _, eqp_mono _, eqp_mono _, eqp_mono _, eqp_mono _, eqp_mono _, eqp_mono _, eqp_mono _, eqp_mono _, eqp_mono _, eqp_mono _, eqp_mono _, eqp_mono _, eqp_mono _, eqp_mono _, eqp_mono _, eqp_mono _, eqp_mono _, eqp_mono _, eqp_mono _, eqp_mono _, eqp_mono _, eqp_mono _, eqp_mono _, eqp_mono _, eqp_mono _, eqp_mono _, eqp_mono _, eqp_mono _, eqp_mono _, eqp_mono _, (fun _ _ _ hF ⟨b, e, h, hb⟩ => ⟨b, e, h, hb.from_ hF⟩), trivial⟩
                    case hop =>
                     refine ⟨?_, ?_⟩
                     · rintro - w25 D25
                       show OpOK _ _ _ _ _ _ _
                       exact ok_pure (ro_move (v := .slice _ _ _) rfl) rfl
                     refine ⟨?_, ?_⟩
                     · rintro - w26 D26
                       rintro _ rfl
                       show OpOK _ _ _ _ _ _ _
                       exact ok_pure (ro_indexAddr0 (i := 0) RpcDec_e64 rfl rfl (by omega)) rfl
                     refine ⟨?_, ?_⟩
                     · rintro - w27 D27
                       rintro _ rfl
                       show OpOK _ _ _ _ _ _ _
                       exact ok_pure (ro_load RpcDec_g3 rfl ((own_nv (ho4.kept_from D27) 0 (by omega)).trans (by rw [sAt_take (by omega) (by omega)]))) rfl
                     refine ⟨?_, ?_⟩
                     · rintro - w28 D28
                       show OpOK _ _ _ _ _ _ _
                       exact ok_pure (ro_move (v := .slice _ _ _) rfl) rfl
                     refine ⟨?_, ?_⟩
                     · rintro - w29 D29
                       rintro _ rfl
                       show OpOK _ _ _ _ _ _ _
                       exact ok_pure (ro_indexAddr0 (i := 1) RpcDec_e64 rfl rfl (by omega)) rfl
                     refine ⟨?_, ?_⟩
                     · rintro - w30 D30
                       rintro _ rfl
                       show OpOK _ _ _ _ _ _ _
                       exact ok_pure (ro_load RpcDec_g3 rfl ((own_nv (ho4.kept_from D30) 1 (by omega)).trans (by rw [sAt_take (by omega) (by omega)]))) rfl
                     refine ⟨?_, ?_⟩
                     · rintro - w31 D31
                       show OpOK _ _ _ _ _ _ _
                       exact ok_pure (ro_move (v := .slice _ _ _) rfl) rfl
                     refine ⟨?_, ?_⟩
                     · rintro - w32 D32
                       rintro _ rfl
                       show OpOK _ _ _ _ _ _ _
                       exact ok_pure (ro_indexAddr0 (i := 2) RpcDec_e64 rfl rfl (by omega)) rfl
                     refine ⟨?_, ?_⟩
                     · rintro - w33 D33
                       rintro _ rfl
                       show OpOK _ _ _ _ _ _ _
                       exact ok_pure (ro_load RpcDec_g3 rfl ((own_nv (ho4.kept_from D33) 2 (by omega)).trans (by rw [sAt_take (by omega) (by omega)]))) rfl
                     refine ⟨?_, ?_⟩
                     · rintro - w34 D34
                       show OpOK _ _ _ _ _ _ _
                       exact ok_pure (ro_move (v := .slice _ _ _) rfl) rfl
                     refine ⟨?_, ?_⟩
                     · rintro - w35 D35
                       rintro _ rfl
                       show OpOK _ _ _ _ _ _ _
                       exact ok_pure (ro_indexAddr0 (i := 3) RpcDec_e64 rfl rfl (by omega)) rfl
                     refine ⟨?_, ?_⟩
                     · rintro - w36 D36
                       rintro _ rfl
                       show OpOK _ _ _ _ _ _ _
                       exact ok_pure (ro_load RpcDec_g3 rfl ((own_nv (ho4.kept_from D36) 3 (by omega)).trans (by rw [sAt_take (by omega) (by omega)]))) rfl
                     refine ⟨?_, ?_⟩
                     · rintro - w37 D37
                       show OpOK _ _ _ _ _ _ _
                       exact ok_pure (ro_move (v := .slice _ _ _) rfl) rfl
                     refine ⟨?_, ?_⟩
                     · rintro - w38 D38
                       rintro _ rfl
                       show OpOK _ _ _ _ _ _ _
                       exact ok_pure (ro_indexAddr0 (i := 4) RpcDec_e64 rfl rfl (by omega)) rfl
                     refine ⟨?_, ?_⟩
                     · rintro - w39 D39
                       rintro _ rfl
                       show OpOK _ _ _ _ _ _ _
                       exact ok_pure (ro_load RpcDec_g3 rfl ((own_nv (ho4.kept_from D39) 4 (by omega)).trans (by rw [sAt_take (by omega) (by omega)]))) rfl
                     refine ⟨?_, ?_⟩
                     · rintro - w40 D40
                       show OpOK _ _ _ _ _ _ _
                       exact ok_pure (ro_move (v := .slice _ _ _) rfl) rfl
                     refine ⟨?_, ?_⟩
                     · rintro - w41 D41
                       rintro _ rfl
                       show OpOK _ _ _ _ _ _ _
                       exact ok_pure (ro_indexAddr0 (i := 5) RpcDec_e64 rfl rfl (by omega)) rfl
                     refine ⟨?_, ?_⟩
                     · rintro - w42 D42
                       rintro _ rfl
                       show OpOK _ _ _ _ _ _ _
                       exact ok_pure (ro_load RpcDec_g3 rfl ((own_nv (ho4.kept_from D42) 5 (by omega)).trans (by rw [sAt_take (by omega) (by omega)]))) rfl
                     refine ⟨?_, ?_⟩
                     · rintro - w43 D43
                       show OpOK _ _ _ _ _ _ _
                       exact ok_pure (ro_move (v := .slice _ _ _) rfl) rfl
                     refine ⟨?_, ?_⟩
                     · rintro - w44 D44
                       rintro _ rfl
                       show OpOK _ _ _ _ _ _ _
                       exact ok_pure (ro_indexAddr0 (i := 6) RpcDec_e64 rfl rfl (by omega)) rfl
                     refine ⟨?_, ?_⟩
                     · rintro - w45 D45
                       rintro _ rfl
                       show OpOK _ _ _ _ _ _ _
                       exact ok_pure (ro_load RpcDec_g3 rfl ((own_nv (ho4.kept_from D45) 6 (by omega)).trans (by rw [sAt_take (by omega) (by omega)]))) rfl
                     refine ⟨?_, ?_⟩
                     · rintro - w46 D46
                       show OpOK _ _ _ _ _ _ _
                       exact ok_pure (ro_move (v := .slice _ _ _) rfl) rfl
                     refine ⟨?_, ?_⟩
                     · rintro - w47 D47
                       rintro _ rfl
                       show OpOK _ _ _ _ _ _ _
                       exact ok_pure (ro_indexAddr0 (i := 7) RpcDec_e64 rfl rfl (by omega)) rfl
                     refine ⟨?_, ?_⟩
                     · rintro - w48 D48
                       rintro _ rfl
                       show OpOK _ _ _ _ _ _ _
                       exact ok_pure (ro_load RpcDec_g3 rfl ((own_nv (ho4.kept_from D48) 7 (by omega)).trans (by rw [sAt_take (by omega) (by omega)]))) rfl
                     refine ⟨?_, ?_⟩
                     · rintro - w49 D49
                       show OpOK _ _ _ _ _ _ _
                       exact ok_pure (ro_move (v := .slice _ _ _) rfl) rfl
                     refine ⟨?_, ?_⟩
                     · rintro - w50 D50
                       rintro _ rfl
                       show OpOK _ _ _ _ _ _ _
                       exact ok_pure (ro_indexAddr0 (i := 8) RpcDec_e64 rfl rfl (by omega)) rfl
                     refine ⟨?_, ?_⟩
                     · rintro - w51 D51
                       rintro _ rfl
                       show OpOK _ _ _ _ _ _ _
                       exact ok_pure (ro_load RpcDec_g3 rfl ((own_nv (ho4.kept_from D51) 8 (by omega)).trans (by rw [sAt_take (by omega) (by omega)]))) rfl
                     refine ⟨?_, ?_⟩
                     · rintro - w52 D52
                       show OpOK _ _ _ _ _ _ _
                       exact ok_pure (ro_move (v := .slice _ _ _) rfl) rfl
                     refine ⟨?_, ?_⟩
                     · rintro - w53 D53
                       rintro _ rfl
                       show OpOK _ _ _ _ _ _ _
                       exact ok_pure (ro_indexAddr0 (i := 9) RpcDec_e64 rfl rfl (by omega)) rfl
                     refine ⟨?_, ?_⟩
                     · rintro - w54 D54
                       rintro _ rfl
                       show OpOK _ _ _ _ _ _ _
                       exact ok_pure (ro_load RpcDec_g3 rfl ((own_nv (ho4.kept_from D54) 9 (by omega)).trans (by rw [sAt_take (by omega) (by omega)]))) rfl
                     refine ⟨?_, ?_⟩
                     · rintro - w55 D55
                       rintro _ rfl
                       show OpOK _ _ _ _ _ _ _
                       exact ok_pure (ro_eql rfl rfl) rfl
                     refine ⟨?_, ?_⟩
                     · rintro - w56 D56
                       show OpOK _ _ _ _ _ _ _
                       exact ok_pure (ro_move (v := .slice _ _ _) rfl) rfl
                     refine ⟨?_, ?_⟩
                     · rintro - w57 D57
                       rintro _ rfl
                       show OpOK _ _ _ _ _ _ _
                       exact ok_pure (ro_indexAddr0 (i := 10) RpcDec_e64 rfl rfl (by omega)) rfl
                     refine ⟨?_, ?_⟩
                     · rintro - w58 D58
                       rintro _ rfl
                       show OpOK _ _ _ _ _ _ _
                       exact ok_pure (ro_load RpcDec_g3 rfl ((own_nv (ho4.kept_from D58) 10 (by omega)).trans (by rw [sAt_take (by omega) (by omega)]))) rfl
                     refine ⟨?_, ?_⟩
                     · rintro - w59 D59
                       rintro _ rfl
                       show OpOK _ _ _ _ _ _ _
                       exact ok_pure (ro_eql rfl rfl) rfl
                     refine ⟨?_, ?_⟩
                     · rintro - w60 D60
                       show OpOK _ _ _ _ _ _ _
                       exact ok_pure (ro_move (v := .slice _ _ _) rfl) rfl
                     refine ⟨?_, ?_⟩
                     · rintro - w61 D61
                       rintro _ rfl
                       show OpOK _ _ _ _ _ _ _
                       exact ok_pure (ro_indexAddr1 (i := 11) RpcDec_e46 rfl rfl (by omega)) rfl
                     refine ⟨?_, ?_⟩
                     · rintro - w62 D62
                       rintro _ rfl
                       show OpOK _ _ _ _ _ _ _
                       exact ok_pure (ro_load RpcDec_g9 rfl (str_at (hrow.from_ ((((((From.rfl_.next E2).next E24).next D21).next D62)).next From.rfl_)) 11 (by omega))) rfl
                     refine ⟨?_, ?_⟩
                     · rintro - w63 D63
                       rintro _ rfl _ rfl _ rfl _ rfl _ rfl _ rfl _ rfl _ rfl _ rfl _ rfl _ rfl _ rfl
                       show OpOK _ _ _ _ _ _ _
                       exact ok_pure (ro_build (l := [(0, .tmp 43), (1, .tmp 46), (2, .tmp 49), (3, .tmp 52), (4, .tmp 55), (5, .tmp 58), (6, .tmp 61), (7, .tmp 64), (10, .tmp 67), (8, .tmp 71), (12, .tmp 75), (11, .tmp 78)]) (RpcDec_b27_0_1_2_3_4_5_6_7_10_8_12_11 _ _ _ _ _ _ _ _ _ _ _ _)) rfl
                     refine ⟨?_, ?_⟩
                     · rintro - w64 D64
                       show OpOK _ _ _ _ _ _ _
                       exact ok_val (ro_alloc RpcDec_o27) (From.rfl_.new _) ⟨_, rfl, ⟨(((((From.rfl_.next E2).next E24).next D21).next D64)).size, by have := (hk2.from_ ((((From.rfl_.next E24).next D21).next D64))).lt; omega⟩, Blk.new _ _ _⟩
                     exact trivial
                    case hend =>
                     intro w65 D65
                     rintro _ rfl _ rfl _ rfl _ rfl _ rfl _ rfl _ rfl _ rfl _ rfl _ rfl _ rfl _ rfl _ rfl _ rfl _ rfl _ rfl _ rfl _ rfl _ rfl _ rfl _ rfl _ rfl _ rfl _ rfl _ rfl _ rfl _ rfl _ rfl _ rfl _ rfl _ rfl _ rfl _ rfl _ rfl _ rfl _ rfl _ rfl _ rfl _ rfl v6 ⟨b6, rfl, hg6b, hk6⟩
                     show St _ _ _ _ _ _ _
                     replace hk2 := hk2.from_ (((From.rfl_.next E24).next D21).next D65)
                     obtain ⟨hg6, h26⟩ := hg6b
                     refine st_putW (vs := [_, _, _, _, _, _, _, _, _, _, _, _, _]) RpcDec_z27 rfl rfl (by simp [Value.oneCell']) (hk6) rfl ?_
                     intro w66 O6 P6
                     replace hk2 := hk2.only O6 (by omega)
                     refine st_nil ?_
                     refine nx_then ?_
                     refine cd_seq ?_
                     refine cd_seq ?_
                     refine cd_region ?_
                     refine st_val (ro_move (v := .slice _ _ _) rfl) ?_
                     refine st_val (ro_dropN (m := 12) RpcDec_e46 rfl rfl (by omega) hnc) ?_
                     refine st_val (ro_assign (v := .slice _ _ _) rfl) ?_
                     refine st_nil ?_
                     refine nx_then ?_
                     refine cd_block ?_
                     refine cd_loop (G := List ByteArray × (Nat × Nat × Nat) × List Ent × (Option Addr × Nat)) [3, 7, 8, 82, 83, 84, 85, 86, 87, 88, 89, 90, 91, 92, 93, 94, 95, 96, 97, 98, 99, 100, 101, 102, 103, 104, 105, 106, 107, 108, 109, 110, 111, 112, 113, 114, 115] (fun (zs, (b, o, c0), xs, (A9, c9)) => [(0, .slice (some ⟨b, o, none⟩) zs.length c0)]) (fun (zs, (b, o, c0), xs, (A9, c9)) w' => RowOf Value.string w (some ⟨b, o, none⟩) zs ∧ zs.length ≤ c0 ∧ zs.length % 3 = 0 ∧ 3 * xs.length + zs.length + 12 = ss.length ∧ (∀ s ∈ zs, s.size ≤ 140737488351232) ∧ entsS (ss.drop 12) = (entsS zs).map (xs ++ ·) ∧ w'.ownsRow w.heap.size 41 3 (.slice A9 xs.length c9) xs.length (entV xs) ∧ Blk w' b6 27 #[.int .i64 (nv (sAt ss 0) : Nat), .int .i64 (nv (sAt ss 1) : Nat), .int .i64 (nv (sAt ss 2) : Nat), .int .i64 (nv (sAt ss 3) : Nat), .int .i64 (nv (sAt ss 4) : Nat), .int .i64 (nv (sAt ss 5) : Nat), .int .i64 (nv (sAt ss 6) : Nat), .int .i64 (nv (sAt ss 7) : Nat), .bool (((nv (sAt ss 9) : Nat) : Int) == 1), .slice A9 xs.length c9, .int .i64 (nv (sAt ss 8) : Nat), .string (sAt ss 11), .bool (((nv (sAt ss 10) : Nat) : Int) == 1)] ∧ Blk w' b2 27 #[.int .i64 0, .int .i64 0, .int .i64 0, .int .i64 0, .int .i64 0, .int .i64 0, .int .i64 0, .int .i64 0, .bool false, .slice none 0 0, .int .i64 0, .string ⟨#[]⟩, .bool false] ∧ From w w') (fun (zs, _, _, _) => zs.length) ((ss.drop 12, (b0, (if c = 12 then o0 else o0 + 12), c - 12), [], (none, 0))) ⟨(by rw [List.length_drop]; rfl), trivial⟩ ?_ ?_
                     · exact ⟨rowO_drop hrow hnc (by omega), by rw [List.length_drop]; omega, by rw [List.length_drop]; omega, by rw [List.length_drop]; simp only [List.length_nil]; omega, fun s hs9 => hs s (List.mem_of_mem_drop hs9), by simp, World.ownsRow_nil _ _ _ _, P6, hk2, (((((From.rfl_.next E2).next E24).next D21).next D65).only O6 (hg6))⟩
                     rintro ⟨zs, ⟨b, o, c0⟩, xs, ⟨A9, c9⟩⟩ ρ67 w67 ⟨hrow0, hzc, hz3, hzx, hzs, hzeq, ho9, hk6, hk2, hB⟩
                     refine cd_seq ?_
                     refine cd_seq ?_
                     refine cd_region ?_
                     refine st_val (ro_move (v := .slice _ _ _) rfl) ?_
                     refine st_val (ro_len RpcDec_l46 rfl) ?_
                     refine st_val (ro_gtr rfl rfl) ?_
                     refine st_nil ?_
                     refine nx_then ?_
                     refine cd_cond rfl (fun Q68 => ?_) (fun Q68 => ?_)
                     · (try first | replace Q68 := bn_t Q68 | replace Q68 := bn_f Q68)
                       (try first | replace Q68 := bx_t Q68 | replace Q68 := bx_f Q68 | replace Q68 := be_t Q68 | replace Q68 := be_f Q68 | replace Q68 := of_decide_eq_true Q68 | replace Q68 := of_decide_eq_false Q68)
                       obtain ⟨x, y, z, zs', rfl⟩ : ∃ x y z zs', zs = x :: y :: z :: zs' := by
                         match zs, hz3, (show 0 < zs.length by omega) with
                         | x :: y :: z :: r, _, _ => exact ⟨x, y, z, r, rfl⟩
                         | [_], h, _ => simp at h
                         | [_, _], h, _ => simp at h
                         | [], _, h => simp at h
                       first
                        | (exfalso; first | omega | contradiction | (cases Q68; done))
                        | skip
                          refine cd_skip ?_
                          refine nx_then ?_
                          refine cd_seq ?_
                          refine cd_block ?_
                          refine cd_seq ?_
                          rcases Classical.em (allN [x, y]) with hab | hab
                          · apply cd_drawnD 13 [(88, eqp _), (89, eqp _), (90, eqp _), (91, eqp _), (92, eqp _), (93, eqp _), (94, fun v w' => ∃ g, v = .slice (some ⟨g, 0, none⟩) 2 2 ∧ Blk w' g 9 #[.string x, .string y]), (95, fun v w' => ∃ A7 c7, v = .tuple #[.slice A7 2 c7, .bool true] ∧ w'.ownsRow w.heap.size 3 1 (.slice A7 2 c7) 2 ([x, y].map fun s => Value.int .i64 (nv s : Nat))), (87, fun v w' => ∃ A7 c7, v = .tuple #[.slice A7 2 c7, .bool true] ∧ w'.ownsRow w.heap.size 3 1 (.slice A7 2 c7) 2 ([x, y].map fun s => Value.int .i64 (nv s : Nat))), (96, fun v w' => ∃ A7 c7, v = .slice A7 2 c7 ∧ w'.ownsRow w.heap.size 3 1 (.slice A7 2 c7) 2 ([x, y].map fun s => Value.int .i64 (nv s : Nat))), (97, eqp _), (7, fun v w' => ∃ A7 c7, v = .slice A7 2 c7 ∧ w'.ownsRow w.heap.size 3 1 (.slice A7 2 c7) 2 ([x, y].map fun s => Value.int .i64 (nv s : Nat))), (8, eqp _)] (by repeat first | exact pq_body | refine pq_then ?_ | refine pq_block ?_) (by kernel_rfl) (by kernel_rfl) ⟨eqp_mono _, eqp_mono _, eqp_mono _, eqp_mono _, eqp_mono _, eqp_mono _, (fun _ _ _ hF ⟨g, h1, h2⟩ => ⟨g, h1, h2.from_ hF⟩), (fun _ _ _ hF ⟨A7, c7, h1, h2⟩ => ⟨A7, c7, h1, h2.kept_from hF⟩), (fun _ _ _ hF ⟨A7, c7, h1, h2⟩ => ⟨A7, c7, h1, h2.kept_from hF⟩), (fun _ _ _ hF ⟨A7, c7, h1, h2⟩ => ⟨A7, c7, h1, h2.kept_from hF⟩), eqp_mono _, (fun _ _ _ hF ⟨A7, c7, h1, h2⟩ => ⟨A7, c7, h1, h2.kept_from hF⟩), eqp_mono _, trivial⟩
                            case hop =>
                             refine ⟨?_, ?_⟩
                             · rintro - w70 D70
                               show OpOK _ _ _ _ _ _ _
                               exact ok_pure (ro_move (v := .slice _ _ _) rfl) rfl
                             refine ⟨?_, ?_⟩
                             · rintro - w71 D71
                               rintro _ rfl
                               show OpOK _ _ _ _ _ _ _
                               exact ok_pure (ro_indexAddr1 (i := 0) RpcDec_e46 rfl rfl (by omega)) rfl
                             refine ⟨?_, ?_⟩
                             · rintro - w72 D72
                               rintro _ rfl
                               show OpOK _ _ _ _ _ _ _
                               exact ok_pure (ro_load RpcDec_g9 rfl ((str_at (hrow0.from_ (((hB.next D72)).next From.rfl_)) 0 (by simp)))) rfl
                             refine ⟨?_, ?_⟩
                             · rintro - w73 D73
                               show OpOK _ _ _ _ _ _ _
                               exact ok_pure (ro_move (v := .slice _ _ _) rfl) rfl
                             refine ⟨?_, ?_⟩
                             · rintro - w74 D74
                               rintro _ rfl
                               show OpOK _ _ _ _ _ _ _
                               exact ok_pure (ro_indexAddr1 (i := 1) RpcDec_e46 rfl rfl (by omega)) rfl
                             refine ⟨?_, ?_⟩
                             · rintro - w75 D75
                               rintro _ rfl
                               show OpOK _ _ _ _ _ _ _
                               exact ok_pure (ro_load RpcDec_g9 rfl ((str_at (hrow0.from_ (((hB.next D75)).next From.rfl_)) 1 (by simp)))) rfl
                             refine ⟨?_, ?_⟩
                             · rintro - w76 D76
                               rintro _ rfl _ rfl
                               show OpOK _ _ _ _ _ _ _
                               exact ok_val (ro_lits [.tmp 90, .tmp 93] [.string x, .string y] RpcDec_q46 rfl rfl rfl rfl (by simp [Value.cells])) (From.rfl_.new _) ⟨_, rfl, Blk.new _ _ _⟩
                             refine ⟨?_, ?_⟩
                             · rintro - w77 D77
                               rintro v77_94 ⟨g77, rfl, hg77⟩
                               show OpOK _ _ _ _ _ _ _
                               refine ok_call RpcDec_k34 ((parse_yes _ 2 2 [x, y] _ rfl (row2 hg77) (by intro s hs9; simp only [List.mem_cons, List.not_mem_nil, or_false] at hs9; rcases hs9 with rfl | rfl <;> exact hzs _ (by simp)) (by simp) hab).mono ?_)
                               rintro v _ ⟨⟨A7, c7, rfl, ho7⟩, F7⟩
                               exact ⟨F7, A7, c7, rfl, own_le ho7 ((hB.next D77)).size⟩
                             refine ⟨?_, ?_⟩
                             · rintro - w78 D78
                               rintro v78_95 ⟨A78, c78, rfl, hq78⟩
                               show OpOK _ _ _ _ _ _ _
                               exact ok_pure (ro_move rfl) ⟨_, _, rfl, hq78⟩
                             refine ⟨?_, ?_⟩
                             · rintro - w79 D79
                               rintro v79_87 ⟨A79, c79, rfl, hq79⟩
                               show OpOK _ _ _ _ _ _ _
                               exact ok_pure (ro_extract rfl rfl) ⟨_, _, rfl, hq79⟩
                             refine ⟨?_, ?_⟩
                             · rintro - w80 D80
                               rintro v80_87 ⟨A80, c80, rfl, hq80⟩
                               show OpOK _ _ _ _ _ _ _
                               exact ok_pure (ro_extract rfl rfl) rfl
                             refine ⟨?_, ?_⟩
                             · rintro - w81 D81
                               rintro v81_96 ⟨A81, c81, rfl, hq81⟩
                               show OpOK _ _ _ _ _ _ _
                               exact ok_pure (ro_assign rfl) ⟨_, _, rfl, hq81⟩
                             refine ⟨?_, ?_⟩
                             · rintro - w82 D82
                               rintro _ rfl
                               show OpOK _ _ _ _ _ _ _
                               exact ok_pure (ro_assign (v := .bool _) rfl) rfl
                             exact trivial
                            case hend =>
                             intro w83 D83
                             rintro _ rfl _ rfl _ rfl _ rfl _ rfl _ rfl v94 ⟨g83, rfl, hg83⟩ v95 ⟨A83, c83, rfl, hq83⟩ v87 ⟨A83, c83, rfl, hq83⟩ v96 ⟨A83, c83, rfl, hq83⟩ _ rfl v7 ⟨A7, c7, rfl, ho7⟩ _ rfl
                             show St _ _ _ _ _ _ _
                             obtain ⟨g7, rfl⟩ := own_some ho7 (by omega)
                             replace ho9 := ho9.kept_from D83
                             replace hk6 := hk6.from_ D83
                             replace hk2 := hk2.from_ D83
                             refine st_nil ?_
                             refine nx_then ?_
                             refine cd_seq ?_
                             refine cd_seq ?_
                             refine cd_region ?_
                             refine st_val (ro_move (v := .bool _) rfl) ?_
                             refine st_val (ro_not rfl) ?_
                             refine st_nil ?_
                             refine nx_then ?_
                             refine cd_cond rfl (fun Q84 => ?_) (fun Q84 => ?_)
                             · (try first | replace Q84 := bn_t Q84 | replace Q84 := bn_f Q84)
                               (try first | replace Q84 := bx_t Q84 | replace Q84 := bx_f Q84 | replace Q84 := be_t Q84 | replace Q84 := be_f Q84 | replace Q84 := of_decide_eq_true Q84 | replace Q84 := of_decide_eq_false Q84)
                               first
                                | (exfalso; first | omega | contradiction | (cases Q84; done))
                                | skip
                                  refine cd_seq ?_
                                  refine cd_region ?_
                                  refine st_val (ro_build (l := []) (RpcDec_b27_)) ?_
                                  refine st_putW (vs := [_, _, _, _, _, _, _, _, _, _, _, _, _]) RpcDec_z27 rfl rfl (by simp [Value.oneCell']) (hk2) rfl ?_
                                  intro w85 O12 P12
                                  refine st_val (ro_assign (v := .bool _) rfl) ?_
                                  refine st_nil ?_
                                  refine nx_then ?_
                                  refine cd_ret ?_
                                  refine rt_then ?_
                                  refine rt_block ?_
                                  refine rt_then ?_
                                  refine rt_then ?_
                                  refine rt_block ?_
                                  refine rt_then ?_
                                  refine resr2 rfl (rv_cellA (cs := [_, _, _, _, _, _, _, _, _, _, _, _, _]) RpcDec_g27 RpcDec_z27 rfl (by first | exact P2.whole | exact P5.whole | exact P12.whole | exact P14.whole)) (rv_tmp (v := .bool _) rfl) ?_
                                  exact ⟨.inr ⟨fun es hg => (by have h1 := hg.2.2.2.2; rw [hzeq, entsS_bad hab] at h1; cases h1), rfl⟩, ((hB.next D83).only O12 (hg2))⟩
                             · (try first | replace Q84 := bn_t Q84 | replace Q84 := bn_f Q84)
                               (try first | replace Q84 := bx_t Q84 | replace Q84 := bx_f Q84 | replace Q84 := be_t Q84 | replace Q84 := be_f Q84 | replace Q84 := of_decide_eq_true Q84 | replace Q84 := of_decide_eq_false Q84)
                               have hlt9 : ∀ q, A9.map (·.block) = some q → q < w83.heap.size := fun q hq => (own_at ho9 q hq).2
                               first
                                | (exfalso; first | omega | contradiction | (cases Q84; done))
                                | skip
                                  refine cd_skip ?_
                                  refine nx_then ?_
                                  apply cd_invP [(0, 101, fun _ v _ => v = _), (1, 102, fun _ v _ => v = _), (2, 103, fun _ v _ => v = _), (3, 104, fun _ v _ => v = _), (4, 105, fun _ v _ => v = _), (5, 106, fun _ v _ => v = _), (6, 107, fun _ v _ => v = _), (7, 108, fun _ v _ => v = _), (8, 109, fun _ v _ => v = _), (9, 110, fun _ v _ => v = _), (10, 111, fun _ v _ => v = _), (11, 112, fun _ v _ => v = _), (12, 113, fun S v w' => ∃ g, v = .slice (some ⟨g, 0, none⟩) 1 1 ∧ (∀ q, A9.map (·.block) = some q → q ≠ g) ∧ (S 13 = false → Blk w' g 41 [.int .i64 (nv x : Nat), .int .i64 (nv y : Nat), .string z].toArray)), (13, 114, fun S v w' => (S 15 = false → ∃ A' c', v = .slice A' (xs.length + 1) c' ∧ w'.ownsRow w.heap.size 41 3 (.slice A' (xs.length + 1) c') (xs.length + 1) (entV xs ++ [.int .i64 (nv x : Nat), .int .i64 (nv y : Nat), .string z])) ∧ ∃ A' c', v = .slice A' (xs.length + 1) c'), (14, 115, fun _ v _ => v = _)] [13, 15] (fun S w' => w83.heap.size ≤ w'.heap.size ∧ From w w' ∧ (S 15 = false → Blk w' b6 27 #[.int .i64 (nv (sAt ss 0) : Nat), .int .i64 (nv (sAt ss 1) : Nat), .int .i64 (nv (sAt ss 2) : Nat), .int .i64 (nv (sAt ss 3) : Nat), .int .i64 (nv (sAt ss 4) : Nat), .int .i64 (nv (sAt ss 5) : Nat), .int .i64 (nv (sAt ss 6) : Nat), .int .i64 (nv (sAt ss 7) : Nat), .bool (((nv (sAt ss 9) : Nat) : Int) == 1), .slice A9 xs.length c9, .int .i64 (nv (sAt ss 8) : Nat), .string (sAt ss 11), .bool (((nv (sAt ss 10) : Nat) : Int) == 1)]) ∧ (S 15 = true → ∃ A' c', Blk w' b6 27 #[.int .i64 (nv (sAt ss 0) : Nat), .int .i64 (nv (sAt ss 1) : Nat), .int .i64 (nv (sAt ss 2) : Nat), .int .i64 (nv (sAt ss 3) : Nat), .int .i64 (nv (sAt ss 4) : Nat), .int .i64 (nv (sAt ss 5) : Nat), .int .i64 (nv (sAt ss 6) : Nat), .int .i64 (nv (sAt ss 7) : Nat), .bool (((nv (sAt ss 9) : Nat) : Int) == 1), (.slice A' (xs.length + 1) c'), .int .i64 (nv (sAt ss 8) : Nat), .string (sAt ss 11), .bool (((nv (sAt ss 10) : Nat) : Int) == 1)] ∧ w'.ownsRow w.heap.size 41 3 (.slice A' (xs.length + 1) c') (xs.length + 1) (entV xs ++ [.int .i64 (nv x : Nat), .int .i64 (nv y : Nat), .string z])) ∧ Blk w' b2 27 #[.int .i64 0, .int .i64 0, .int .i64 0, .int .i64 0, .int .i64 0, .int .i64 0, .int .i64 0, .int .i64 0, .bool false, .slice none 0 0, .int .i64 0, .string ⟨#[]⟩, .bool false] ∧ w'.ownsRow w.heap.size 3 1 (.slice (some ⟨g7, 0, none⟩) 2 c7) 2 ([x, y].map fun s => Value.int .i64 (nv s : Nat)) ∧ (S 13 = false → w'.ownsRow w.heap.size 41 3 (.slice A9 xs.length c9) xs.length (entV xs))) (by kernel_rfl) (by kernel_rfl) rfl rfl ⟨fun _ _ _ _ _ _ _ h => h, fun _ _ _ _ _ _ _ h => h, fun _ _ _ _ _ _ _ h => h, fun _ _ _ _ _ _ _ h => h, fun _ _ _ _ _ _ _ h => h, fun _ _ _ _ _ _ _ h => h, fun _ _ _ _ _ _ _ h => h, fun _ _ _ _ _ _ _ h => h, fun _ _ _ _ _ _ _ h => h, fun _ _ _ _ _ _ _ h => h, fun _ _ _ _ _ _ _ h => h, fun _ _ _ _ _ _ _ h => h, fun S i v w1 w2 hq hF ⟨g, h1, h2, h3⟩ => ⟨g, h1, h2, fun h0 => (h3 (setF h0)).from_ hF⟩, fun S i v w1 w2 hq hF ⟨h1, h2⟩ => ⟨fun h0 => let ⟨A2, c2, h3, h4⟩ := h1 (setF h0); ⟨A2, c2, h3, h4.kept_from hF⟩, h2⟩, fun _ _ _ _ _ _ _ h => h, trivial⟩ (fun S i w1 w2 hq hF h => ⟨Nat.le_trans h.1 hF.size, h.2.1.next hF, fun h0 => (h.2.2.1 (setF h0)).from_ hF, fun h0 => let ⟨A2, c2, h1, h2⟩ := h.2.2.2.1 (setT (by rintro rfl; cases hq) h0); ⟨A2, c2, h1.from_ hF, h2.kept_from hF⟩, h.2.2.2.2.1.from_ hF, h.2.2.2.2.2.1.kept_from hF, fun h0 => (h.2.2.2.2.2.2 (setF h0)).kept_from hF⟩) (⟨Nat.le_refl _, ((hB.next D83)).d1, fun _ => hk6.from_ From.rfl_.d1, fun h => (by cases h), hk2.from_ From.rfl_.d1, ho7.kept_from From.rfl_.d1, fun _ => ho9.kept_from From.rfl_.d1⟩)
                                  case hstep =>
                                   refine ⟨?_, ?_⟩
                                   · rintro S L' w86 hU hmo hme hI hM hC hS ⟨-⟩
                                     have hM' := hM
                                     obtain ⟨hz, hB86, hk6, hk6b, hk2, ho7, ho9⟩ := hM'
                                     have e6 := hI.1 6 (outP rfl)
                                     exact stepQ_ro [(6, _)] hU hmo hme hI hM (.head _) rfl rfl (by kernel_rfl) ⟨e6, trivial⟩ (ro_fieldAddr RpcDec_f27_9 rfl) From.rfl_ rfl
                                   refine ⟨?_, ?_⟩
                                   · rintro S L' w87 hU hmo hme hI hM hC hS ⟨d0, -⟩
                                     have hM' := hM
                                     obtain ⟨hz, hB87, hk6, hk6b, hk2, ho7, ho9⟩ := hM'
                                     obtain ⟨v87_101, e101, h101⟩ := hI.get (i := 0) (.head _) d0
                                     obtain rfl := h101
                                     exact stepQ_ro [(101, _)] hU hmo hme hI hM (.tail _ (.head _)) rfl rfl (by kernel_rfl) ⟨e101, trivial⟩ (ro_load RpcDec_g25 rfl ((hk6 (closed_old hC (j := 15) rfl (by kernel_rfl) hS)).rd 9 rfl)) (From.rfl_) (rfl)
                                   refine ⟨?_, ?_⟩
                                   · rintro S L' w88 hU hmo hme hI hM hC hS ⟨-⟩
                                     have hM' := hM
                                     obtain ⟨hz, hB88, hk6, hk6b, hk2, ho7, ho9⟩ := hM'
                                     have e7 := hI.1 7 (outP rfl)
                                     exact stepQ_ro [(7, _)] hU hmo hme hI hM (.tail _ (.tail _ (.head _))) rfl rfl (by kernel_rfl) ⟨e7, trivial⟩ (ro_move (v := .slice _ _ _) rfl) From.rfl_ rfl
                                   refine ⟨?_, ?_⟩
                                   · rintro S L' w89 hU hmo hme hI hM hC hS ⟨d2, -⟩
                                     have hM' := hM
                                     obtain ⟨hz, hB89, hk6, hk6b, hk2, ho7, ho9⟩ := hM'
                                     obtain ⟨v89_103, e103, h103⟩ := hI.get (i := 2) (.tail _ (.tail _ (.head _))) d2
                                     obtain rfl := h103
                                     exact stepQ_ro [(103, _)] hU hmo hme hI hM (.tail _ (.tail _ (.tail _ (.head _)))) rfl rfl (by kernel_rfl) ⟨e103, trivial⟩ (ro_indexAddr0 (i := 0) RpcDec_e64 rfl rfl (by omega)) From.rfl_ rfl
                                   refine ⟨?_, ?_⟩
                                   · rintro S L' w90 hU hmo hme hI hM hC hS ⟨d3, -⟩
                                     have hM' := hM
                                     obtain ⟨hz, hB90, hk6, hk6b, hk2, ho7, ho9⟩ := hM'
                                     obtain ⟨v90_104, e104, h104⟩ := hI.get (i := 3) (.tail _ (.tail _ (.tail _ (.head _)))) d3
                                     obtain rfl := h104
                                     exact stepQ_ro [(104, _)] hU hmo hme hI hM (.tail _ (.tail _ (.tail _ (.tail _ (.head _))))) rfl rfl (by kernel_rfl) ⟨e104, trivial⟩ (ro_load RpcDec_g3 rfl (by exact own_nv ho7 0 (by simp))) From.rfl_ rfl
                                   refine ⟨?_, ?_⟩
                                   · rintro S L' w91 hU hmo hme hI hM hC hS ⟨-⟩
                                     have hM' := hM
                                     obtain ⟨hz, hB91, hk6, hk6b, hk2, ho7, ho9⟩ := hM'
                                     have e7 := hI.1 7 (outP rfl)
                                     exact stepQ_ro [(7, _)] hU hmo hme hI hM (.tail _ (.tail _ (.tail _ (.tail _ (.tail _ (.head _)))))) rfl rfl (by kernel_rfl) ⟨e7, trivial⟩ (ro_move (v := .slice _ _ _) rfl) From.rfl_ rfl
                                   refine ⟨?_, ?_⟩
                                   · rintro S L' w92 hU hmo hme hI hM hC hS ⟨d5, -⟩
                                     have hM' := hM
                                     obtain ⟨hz, hB92, hk6, hk6b, hk2, ho7, ho9⟩ := hM'
                                     obtain ⟨v92_106, e106, h106⟩ := hI.get (i := 5) (.tail _ (.tail _ (.tail _ (.tail _ (.tail _ (.head _)))))) d5
                                     obtain rfl := h106
                                     exact stepQ_ro [(106, _)] hU hmo hme hI hM (.tail _ (.tail _ (.tail _ (.tail _ (.tail _ (.tail _ (.head _))))))) rfl rfl (by kernel_rfl) ⟨e106, trivial⟩ (ro_indexAddr0 (i := 1) RpcDec_e64 rfl rfl (by omega)) From.rfl_ rfl
                                   refine ⟨?_, ?_⟩
                                   · rintro S L' w93 hU hmo hme hI hM hC hS ⟨d6, -⟩
                                     have hM' := hM
                                     obtain ⟨hz, hB93, hk6, hk6b, hk2, ho7, ho9⟩ := hM'
                                     obtain ⟨v93_107, e107, h107⟩ := hI.get (i := 6) (.tail _ (.tail _ (.tail _ (.tail _ (.tail _ (.tail _ (.head _))))))) d6
                                     obtain rfl := h107
                                     exact stepQ_ro [(107, _)] hU hmo hme hI hM (.tail _ (.tail _ (.tail _ (.tail _ (.tail _ (.tail _ (.tail _ (.head _)))))))) rfl rfl (by kernel_rfl) ⟨e107, trivial⟩ (ro_load RpcDec_g3 rfl (by exact own_nv ho7 1 (by simp))) From.rfl_ rfl
                                   refine ⟨?_, ?_⟩
                                   · rintro S L' w94 hU hmo hme hI hM hC hS ⟨-⟩
                                     have hM' := hM
                                     obtain ⟨hz, hB94, hk6, hk6b, hk2, ho7, ho9⟩ := hM'
                                     have e0 := hI.1 0 (outP rfl)
                                     exact stepQ_ro [(0, _)] hU hmo hme hI hM (.tail _ (.tail _ (.tail _ (.tail _ (.tail _ (.tail _ (.tail _ (.tail _ (.head _))))))))) rfl rfl (by kernel_rfl) ⟨e0, trivial⟩ (ro_move (v := .slice _ _ _) rfl) From.rfl_ rfl
                                   refine ⟨?_, ?_⟩
                                   · rintro S L' w95 hU hmo hme hI hM hC hS ⟨d8, -⟩
                                     have hM' := hM
                                     obtain ⟨hz, hB95, hk6, hk6b, hk2, ho7, ho9⟩ := hM'
                                     obtain ⟨v95_109, e109, h109⟩ := hI.get (i := 8) (.tail _ (.tail _ (.tail _ (.tail _ (.tail _ (.tail _ (.tail _ (.tail _ (.head _))))))))) d8
                                     obtain rfl := h109
                                     exact stepQ_ro [(109, _)] hU hmo hme hI hM (.tail _ (.tail _ (.tail _ (.tail _ (.tail _ (.tail _ (.tail _ (.tail _ (.tail _ (.head _)))))))))) rfl rfl (by kernel_rfl) ⟨e109, trivial⟩ (ro_indexAddr1 (i := 2) RpcDec_e46 rfl rfl (by omega)) From.rfl_ rfl
                                   refine ⟨?_, ?_⟩
                                   · rintro S L' w96 hU hmo hme hI hM hC hS ⟨d9, -⟩
                                     have hM' := hM
                                     obtain ⟨hz, hB96, hk6, hk6b, hk2, ho7, ho9⟩ := hM'
                                     obtain ⟨v96_110, e110, h110⟩ := hI.get (i := 9) (.tail _ (.tail _ (.tail _ (.tail _ (.tail _ (.tail _ (.tail _ (.tail _ (.tail _ (.head _)))))))))) d9
                                     obtain rfl := h110
                                     exact stepQ_ro [(110, _)] hU hmo hme hI hM (.tail _ (.tail _ (.tail _ (.tail _ (.tail _ (.tail _ (.tail _ (.tail _ (.tail _ (.tail _ (.head _))))))))))) rfl rfl (by kernel_rfl) ⟨e110, trivial⟩ (ro_load RpcDec_g9 rfl (by exact str_at (hrow0.from_ hB96) 2 (by simp))) From.rfl_ rfl
                                   refine ⟨?_, ?_⟩
                                   · rintro S L' w97 hU hmo hme hI hM hC hS ⟨d4, d7, d10, -⟩
                                     have hM' := hM
                                     obtain ⟨hz, hB97, hk6, hk6b, hk2, ho7, ho9⟩ := hM'
                                     obtain ⟨v97_105, e105, h105⟩ := hI.get (i := 4) (.tail _ (.tail _ (.tail _ (.tail _ (.head _))))) d4
                                     obtain rfl := h105
                                     obtain ⟨v97_108, e108, h108⟩ := hI.get (i := 7) (.tail _ (.tail _ (.tail _ (.tail _ (.tail _ (.tail _ (.tail _ (.head _)))))))) d7
                                     obtain rfl := h108
                                     obtain ⟨v97_111, e111, h111⟩ := hI.get (i := 10) (.tail _ (.tail _ (.tail _ (.tail _ (.tail _ (.tail _ (.tail _ (.tail _ (.tail _ (.tail _ (.head _))))))))))) d10
                                     obtain rfl := h111
                                     exact stepQ_ro [(105, _), (108, _), (111, _)] hU hmo hme hI hM (.tail _ (.tail _ (.tail _ (.tail _ (.tail _ (.tail _ (.tail _ (.tail _ (.tail _ (.tail _ (.tail _ (.head _)))))))))))) rfl rfl (by kernel_rfl) ⟨e105, e108, e111, trivial⟩ (ro_build (l := [(0, .tmp 105), (1, .tmp 108), (2, .tmp 111)]) (RpcDec_b41_0_1_2 _ _ _)) From.rfl_ rfl
                                   refine ⟨?_, ?_⟩
                                   · rintro S L' w98 hU hmo hme hI hM hC hS ⟨d11, -⟩
                                     have hM' := hM
                                     obtain ⟨hz, hB98, hk6, hk6b, hk2, ho7, ho9⟩ := hM'
                                     obtain ⟨v98_112, e112, h112⟩ := hI.get (i := 11) (.tail _ (.tail _ (.tail _ (.tail _ (.tail _ (.tail _ (.tail _ (.tail _ (.tail _ (.tail _ (.tail _ (.head _)))))))))))) d11
                                     obtain rfl := h112
                                     exact stepQ_ro [(112, _)] hU hmo hme hI hM (.tail _ (.tail _ (.tail _ (.tail _ (.tail _ (.tail _ (.tail _ (.tail _ (.tail _ (.tail _ (.tail _ (.tail _ (.head _))))))))))))) rfl rfl (by kernel_rfl) ⟨e112, trivial⟩ (ro_lit (l := [(0, .tmp 112)]) (cells := [.int .i64 (nv x : Nat), .int .i64 (nv y : Nat), .string z].toArray) RpcDec_q25 rfl rfl (by show Instr.fill _ _ [(0, Value.agg #[.int .i64 (nv x : Nat), .int .i64 (nv y : Nat), .string z])] = _; kernel_rfl)) (From.rfl_.new _) (⟨_, rfl, fun q hq => by have := hlt9 q hq; omega, fun _ => Blk.new _ _ _⟩)
                                   refine ⟨?_, ?_⟩
                                   · rintro S L' w99 hU hmo hme hI hM hC hS ⟨d1, d12, -⟩
                                     have hM' := hM
                                     obtain ⟨hz, hB99, hk6, hk6b, hk2, ho7, ho9⟩ := hM'
                                     obtain ⟨v99_102, e102, h102⟩ := hI.get (i := 1) (.tail _ (.head _)) d1
                                     obtain rfl := h102
                                     obtain ⟨v99_113, e113, h113⟩ := hI.get (i := 12) (.tail _ (.tail _ (.tail _ (.tail _ (.tail _ (.tail _ (.tail _ (.tail _ (.tail _ (.tail _ (.tail _ (.tail _ (.head _))))))))))))) d12
                                     obtain ⟨g113, rfl, hx113, hk113⟩ := h113
                                     have h13 := ho9 hS
                                     have h15 : S 15 = false := closed_old hC (j := 15) rfl (by kernel_rfl) hS
                                     obtain ⟨A', c', w2, hR, ho, hg⟩ := ro_appendB (P := Tryd.prog) (ρ := ev 117 [(102, _), (113, _)]) (s := .tmp 102) (x := .tmp 113) (j := 1) (news := [.int .i64 (nv x : Nat), .int .i64 (nv y : Nat), .string z]) RpcDec_q25 rfl (by decide) rfl h13 hB99.size rfl rfl ⟨g113, 0, rfl, (hk113 hS).whole⟩ (by simp [Value.oneCell']) (by omega) (by omega)
                                     exact stepM_ro [(102, _), (113, _)] hU hI (.tail _ (.tail _ (.tail _ (.tail _ (.tail _ (.tail _ (.tail _ (.tail _ (.tail _ (.tail _ (.tail _ (.tail _ (.tail _ (.head _)))))))))))))) rfl (by kernel_rfl) ⟨e102, e113, trivial⟩ hR ⟨Nat.le_trans hz hg.size, hB99.grew hg (fun q hq => (own_at h13 q hq).1), fun h0 => (hk6 h15).grown hg (own_off h13 (hk6 h15) (by decide)), fun h0 => absurd (setT (by decide) h0) (by rw [h15]; decide), hk2.grown hg (own_off h13 hk2 (by decide)), own_grown2 ho7 hg (own_other h13 ho7 (by decide)), fun h0 => (by rw [setS] at h0; cases h0)⟩ ⟨fun _ => ⟨A', c', rfl, ho⟩, A', c', rfl⟩ ⟨fun _ _ _ h => h, fun _ _ _ h => h, fun _ _ _ h => h, fun _ _ _ h => h, fun _ _ _ h => h, fun _ _ _ h => h, fun _ _ _ h => h, fun _ _ _ h => h, fun _ _ _ h => h, fun _ _ _ h => h, fun _ _ _ h => h, fun _ _ _ h => h, fun _ _ _ ⟨g, h1, h2, h3⟩ => ⟨g, h1, h2, fun h0 => (by rw [setS] at h0; cases h0)⟩, (fun h => by cases h), fun _ _ _ h => h, trivial⟩
                                   refine ⟨?_, ?_⟩
                                   · rintro S L' w100 hU hmo hme hI hM hC hS ⟨d0, d1, d2, d3, d4, d5, d6, d7, d8, d9, d10, d11, d12, d13, -⟩
                                     have hM' := hM
                                     obtain ⟨hz, hB100, hk6, hk6b, hk2, ho7, ho9⟩ := hM'
                                     have e6 := hI.1 6 (outP rfl)
                                     exact stepQ_ro [(6, _)] hU hmo hme hI hM (.tail _ (.tail _ (.tail _ (.tail _ (.tail _ (.tail _ (.tail _ (.tail _ (.tail _ (.tail _ (.tail _ (.tail _ (.tail _ (.tail _ (.head _))))))))))))))) rfl rfl (by kernel_rfl) ⟨e6, trivial⟩ (ro_fieldAddr RpcDec_f27_9 rfl) From.rfl_ rfl
                                   refine ⟨?_, ?_⟩
                                   · rintro S L' w101 hU hmo hme hI hM hC hS ⟨d14, d13, d13, d0, d1, d2, d3, d4, d5, d6, d7, d8, d9, d10, d11, d12, d13, -⟩
                                     have hM' := hM
                                     obtain ⟨hz, hB101, hk6, hk6b, hk2, ho7, ho9⟩ := hM'
                                     obtain ⟨v101_114, e114, h114⟩ := hI.get (i := 13) (.tail _ (.tail _ (.tail _ (.tail _ (.tail _ (.tail _ (.tail _ (.tail _ (.tail _ (.tail _ (.tail _ (.tail _ (.tail _ (.head _)))))))))))))) d13
                                     obtain ⟨hx114, A114, c114, rfl⟩ := h114
                                     obtain ⟨v101_115, e115, h115⟩ := hI.get (i := 14) (.tail _ (.tail _ (.tail _ (.tail _ (.tail _ (.tail _ (.tail _ (.tail _ (.tail _ (.tail _ (.tail _ (.tail _ (.tail _ (.tail _ (.head _))))))))))))))) d14
                                     obtain rfl := h115
                                     obtain ⟨A2, c2, he2, ho2⟩ := hx114 hS
                                     cases he2
                                     have hkb := hk6 hS
                                     obtain ⟨w2, hR, hO, hb⟩ := rs_put (n := 117) (L := [(114, _), (115, _)]) (x := .tmp 115) (y := .tmp 114) (v := .slice A114 (xs.length + 1) c114) RpcDec_z25 rfl rfl rfl hkb (by show 0 + 9 < 13; decide)
                                     exact stepM_rs [(114, _), (115, _)] hI (idxP rfl) rfl (by kernel_rfl) ⟨e114, e115, trivial⟩ hR ⟨by rw [hO.size]; exact hz, hB101.only hO hg6, fun h0 => (by rw [setS] at h0; cases h0), fun _ => ⟨A114, c114, hb, own_only3 ho2 hO (own_off ho2 hkb (by decide))⟩, hk2.only hO (by omega), own_only3 ho7 hO (own_off ho7 hkb (by decide)), fun h0 => (by rw [setN (by decide)] at h0; rw [d13] at h0; cases h0)⟩ ⟨fun _ _ _ h => h, fun _ _ _ h => h, fun _ _ _ h => h, fun _ _ _ h => h, fun _ _ _ h => h, fun _ _ _ h => h, fun _ _ _ h => h, fun _ _ _ h => h, fun _ _ _ h => h, fun _ _ _ h => h, fun _ _ _ h => h, fun _ _ _ h => h, fun _ _ _ ⟨g, h1, h2, h3⟩ => ⟨g, h1, h2, fun h0 => (by rw [setN (by decide)] at h0; rw [d13] at h0; cases h0)⟩, fun _ _ _ h => ⟨fun h0 => (by rw [setS] at h0; cases h0), h.2⟩, fun _ _ _ h => h, trivial⟩
                                   exact trivial
                                  case hend =>
                                   intro w102 hM
                                   obtain ⟨hz, hB102, hk6, hk6b, hk2, ho7, ho9⟩ := hM
                                   rintro v102_101 rfl v102_102 rfl v102_103 rfl v102_104 rfl v102_105 rfl v102_106 rfl v102_107 rfl v102_108 rfl v102_109 rfl v102_110 rfl v102_111 rfl v102_112 rfl v102_113 ⟨g113, rfl, hx113, hk113⟩ v102_114 ⟨hx114, A114, c114, rfl⟩ v102_115 rfl
                                   refine allP_nil ?_
                                   obtain ⟨A14, c14, hk6c, ho14⟩ := hk6b rfl
                                   clear hk6
                                   have hk6 := hk6c
                                   refine nx_block ?_
                                   refine nx_then ?_
                                   refine cd_region ?_
                                   refine st_val (ro_move (v := .slice _ _ _) rfl) ?_
                                   refine st_val (ro_dropN (m := 3) RpcDec_e46 rfl rfl (by simp) hzc) ?_
                                   refine st_val (ro_assign (v := .slice _ _ _) rfl) ?_
                                   refine st_nil ?_
                                   refine nx_cut ((zs', (b, (if c0 = 3 then o else o + 3), c0 - 3), xs ++ [⟨(nv x : Nat), (nv y : Nat), z⟩], (A14, c14))) ⟨(congrArg (fun n => Value.slice _ n _) (show zs'.length + 1 + 1 + 1 - 3 = zs'.length by omega)), trivial⟩ (by (iterate 74 refine agr_cons rfl ?_); exact agr_rfl) ⟨?_, ?_⟩
                                   · refine ⟨rowO_drop hrow0 hzc (by simp), by simp only [List.length_cons] at hzc ⊢; omega, by simp only [List.length_cons] at hz3; omega, by simp only [List.length_cons, List.length_append, List.length_nil] at hzx ⊢; omega, fun s hs9 => hzs s (by simp [hs9]), ?_, ?_, ?_, hk2, hB102⟩
                                     · rw [hzeq]
                                       show Option.map _ (if (numS x).isSome = true ∧ (numS y).isSome = true then _ else _) = _
                                       rw [if_pos (allN2.1 hab)]
                                       cases entsS zs' <;> simp
                                     · rw [entV_snoc, List.length_append]; exact ho14
                                     · rw [List.length_append]; exact hk6
                                   · simp only [List.length_cons]; omega
                          · apply cd_drawnD 13 [(88, eqp _), (89, eqp _), (90, eqp _), (91, eqp _), (92, eqp _), (93, eqp _), (94, fun v w' => ∃ g, v = .slice (some ⟨g, 0, none⟩) 2 2 ∧ Blk w' g 9 #[.string x, .string y]), (95, eqp _), (87, eqp _), (96, eqp _), (97, eqp _), (7, eqp _), (8, eqp _)] (by repeat first | exact pq_body | refine pq_then ?_ | refine pq_block ?_) (by kernel_rfl) (by kernel_rfl) ⟨eqp_mono _, eqp_mono _, eqp_mono _, eqp_mono _, eqp_mono _, eqp_mono _, (fun _ _ _ hF ⟨g, h1, h2⟩ => ⟨g, h1, h2.from_ hF⟩), eqp_mono _, eqp_mono _, eqp_mono _, eqp_mono _, eqp_mono _, eqp_mono _, trivial⟩
                            case hop =>
                             refine ⟨?_, ?_⟩
                             · rintro - w104 D104
                               show OpOK _ _ _ _ _ _ _
                               exact ok_pure (ro_move (v := .slice _ _ _) rfl) rfl
                             refine ⟨?_, ?_⟩
                             · rintro - w105 D105
                               rintro _ rfl
                               show OpOK _ _ _ _ _ _ _
                               exact ok_pure (ro_indexAddr1 (i := 0) RpcDec_e46 rfl rfl (by omega)) rfl
                             refine ⟨?_, ?_⟩
                             · rintro - w106 D106
                               rintro _ rfl
                               show OpOK _ _ _ _ _ _ _
                               exact ok_pure (ro_load RpcDec_g9 rfl ((str_at (hrow0.from_ (((hB.next D106)).next From.rfl_)) 0 (by simp)))) rfl
                             refine ⟨?_, ?_⟩
                             · rintro - w107 D107
                               show OpOK _ _ _ _ _ _ _
                               exact ok_pure (ro_move (v := .slice _ _ _) rfl) rfl
                             refine ⟨?_, ?_⟩
                             · rintro - w108 D108
                               rintro _ rfl
                               show OpOK _ _ _ _ _ _ _
                               exact ok_pure (ro_indexAddr1 (i := 1) RpcDec_e46 rfl rfl (by omega)) rfl
                             refine ⟨?_, ?_⟩
                             · rintro - w109 D109
                               rintro _ rfl
                               show OpOK _ _ _ _ _ _ _
                               exact ok_pure (ro_load RpcDec_g9 rfl ((str_at (hrow0.from_ (((hB.next D109)).next From.rfl_)) 1 (by simp)))) rfl
                             refine ⟨?_, ?_⟩
                             · rintro - w110 D110
                               rintro _ rfl _ rfl
                               show OpOK _ _ _ _ _ _ _
                               exact ok_val (ro_lits [.tmp 90, .tmp 93] [.string x, .string y] RpcDec_q46 rfl rfl rfl rfl (by simp [Value.cells])) (From.rfl_.new _) ⟨_, rfl, Blk.new _ _ _⟩
                             refine ⟨?_, ?_⟩
                             · rintro - w111 D111
                               rintro v111_94 ⟨g111, rfl, hg111⟩
                               show OpOK _ _ _ _ _ _ _
                               refine ok_call RpcDec_k34 ((parse_no _ 2 2 [x, y] _ rfl (row2 hg111) (by intro s hs9; simp only [List.mem_cons, List.not_mem_nil, or_false] at hs9; rcases hs9 with rfl | rfl <;> exact hzs _ (by simp)) (by simp) hab).mono ?_)
                               rintro v _ ⟨rfl, F7⟩
                               exact ⟨F7, rfl⟩
                             refine ⟨?_, ?_⟩
                             · rintro - w112 D112
                               rintro _ rfl
                               show OpOK _ _ _ _ _ _ _
                               exact ok_pure (ro_move (v := .tuple _) rfl) rfl
                             refine ⟨?_, ?_⟩
                             · rintro - w113 D113
                               rintro _ rfl
                               show OpOK _ _ _ _ _ _ _
                               exact ok_pure (ro_extract rfl rfl) rfl
                             refine ⟨?_, ?_⟩
                             · rintro - w114 D114
                               rintro _ rfl
                               show OpOK _ _ _ _ _ _ _
                               exact ok_pure (ro_extract rfl rfl) rfl
                             refine ⟨?_, ?_⟩
                             · rintro - w115 D115
                               rintro _ rfl
                               show OpOK _ _ _ _ _ _ _
                               exact ok_pure (ro_assign (v := .slice _ _ _) rfl) rfl
                             refine ⟨?_, ?_⟩
                             · rintro - w116 D116
                               rintro _ rfl
                               show OpOK _ _ _ _ _ _ _
                               exact ok_pure (ro_assign (v := .bool _) rfl) rfl
                             exact trivial
                            case hend =>
                             intro w117 D117
                             rintro _ rfl _ rfl _ rfl _ rfl _ rfl _ rfl v94 ⟨g117, rfl, hg117⟩ _ rfl _ rfl _ rfl _ rfl _ rfl _ rfl
                             show St _ _ _ _ _ _ _
                             replace ho9 := ho9.kept_from D117
                             replace hk6 := hk6.from_ D117
                             replace hk2 := hk2.from_ D117
                             refine st_nil ?_
                             refine nx_then ?_
                             refine cd_seq ?_
                             refine cd_seq ?_
                             refine cd_region ?_
                             refine st_val (ro_move (v := .bool _) rfl) ?_
                             refine st_val (ro_not rfl) ?_
                             refine st_nil ?_
                             refine nx_then ?_
                             refine cd_cond rfl (fun Q118 => ?_) (fun Q118 => ?_)
                             · (try first | replace Q118 := bn_t Q118 | replace Q118 := bn_f Q118)
                               (try first | replace Q118 := bx_t Q118 | replace Q118 := bx_f Q118 | replace Q118 := be_t Q118 | replace Q118 := be_f Q118 | replace Q118 := of_decide_eq_true Q118 | replace Q118 := of_decide_eq_false Q118)
                               first
                                | (exfalso; first | omega | contradiction | (cases Q118; done))
                                | skip
                                  refine cd_seq ?_
                                  refine cd_region ?_
                                  refine st_val (ro_build (l := []) (RpcDec_b27_)) ?_
                                  refine st_putW (vs := [_, _, _, _, _, _, _, _, _, _, _, _, _]) RpcDec_z27 rfl rfl (by simp [Value.oneCell']) (hk2) rfl ?_
                                  intro w119 O12 P12
                                  refine st_val (ro_assign (v := .bool _) rfl) ?_
                                  refine st_nil ?_
                                  refine nx_then ?_
                                  refine cd_ret ?_
                                  refine rt_then ?_
                                  refine rt_block ?_
                                  refine rt_then ?_
                                  refine rt_then ?_
                                  refine rt_block ?_
                                  refine rt_then ?_
                                  refine resr2 rfl (rv_cellA (cs := [_, _, _, _, _, _, _, _, _, _, _, _, _]) RpcDec_g27 RpcDec_z27 rfl (by first | exact P2.whole | exact P5.whole | exact P12.whole | exact P14.whole)) (rv_tmp (v := .bool _) rfl) ?_
                                  exact ⟨.inr ⟨fun es hg => (by have h1 := hg.2.2.2.2; rw [hzeq, entsS_bad hab] at h1; cases h1), rfl⟩, ((hB.next D117).only O12 (hg2))⟩
                             · (try first | replace Q118 := bn_t Q118 | replace Q118 := bn_f Q118)
                               (try first | replace Q118 := bx_t Q118 | replace Q118 := bx_f Q118 | replace Q118 := be_t Q118 | replace Q118 := be_f Q118 | replace Q118 := of_decide_eq_true Q118 | replace Q118 := of_decide_eq_false Q118)
                               have hlt9 : ∀ q, A9.map (·.block) = some q → q < w117.heap.size := fun q hq => (own_at ho9 q hq).2
                               first
                                | (exfalso; first | omega | contradiction | (cases Q118; done))
                                | skip
                                  refine cd_skip ?_
                                  refine nx_then ?_
                                  apply cd_invP [(0, 101, fun _ v _ => v = _), (1, 102, fun _ v _ => v = _), (2, 103, fun _ v _ => v = _), (3, 104, fun _ v _ => v = _), (4, 105, fun _ v _ => v = _), (5, 106, fun _ v _ => v = _), (6, 107, fun _ v _ => v = _), (7, 108, fun _ v _ => v = _), (8, 109, fun _ v _ => v = _), (9, 110, fun _ v _ => v = _), (10, 111, fun _ v _ => v = _), (11, 112, fun _ v _ => v = _), (12, 113, fun S v w' => ∃ g, v = .slice (some ⟨g, 0, none⟩) 1 1 ∧ (∀ q, A9.map (·.block) = some q → q ≠ g) ∧ (S 13 = false → Blk w' g 41 [.int .i64 (nv x : Nat), .int .i64 (nv y : Nat), .string z].toArray)), (13, 114, fun S v w' => (S 15 = false → ∃ A' c', v = .slice A' (xs.length + 1) c' ∧ w'.ownsRow w.heap.size 41 3 (.slice A' (xs.length + 1) c') (xs.length + 1) (entV xs ++ [.int .i64 (nv x : Nat), .int .i64 (nv y : Nat), .string z])) ∧ ∃ A' c', v = .slice A' (xs.length + 1) c'), (14, 115, fun _ v _ => v = _)] [13, 15] (fun S w' => w117.heap.size ≤ w'.heap.size ∧ From w w' ∧ (S 15 = false → Blk w' b6 27 #[.int .i64 (nv (sAt ss 0) : Nat), .int .i64 (nv (sAt ss 1) : Nat), .int .i64 (nv (sAt ss 2) : Nat), .int .i64 (nv (sAt ss 3) : Nat), .int .i64 (nv (sAt ss 4) : Nat), .int .i64 (nv (sAt ss 5) : Nat), .int .i64 (nv (sAt ss 6) : Nat), .int .i64 (nv (sAt ss 7) : Nat), .bool (((nv (sAt ss 9) : Nat) : Int) == 1), .slice A9 xs.length c9, .int .i64 (nv (sAt ss 8) : Nat), .string (sAt ss 11), .bool (((nv (sAt ss 10) : Nat) : Int) == 1)]) ∧ (S 15 = true → ∃ A' c', Blk w' b6 27 #[.int .i64 (nv (sAt ss 0) : Nat), .int .i64 (nv (sAt ss 1) : Nat), .int .i64 (nv (sAt ss 2) : Nat), .int .i64 (nv (sAt ss 3) : Nat), .int .i64 (nv (sAt ss 4) : Nat), .int .i64 (nv (sAt ss 5) : Nat), .int .i64 (nv (sAt ss 6) : Nat), .int .i64 (nv (sAt ss 7) : Nat), .bool (((nv (sAt ss 9) : Nat) : Int) == 1), (.slice A' (xs.length + 1) c'), .int .i64 (nv (sAt ss 8) : Nat), .string (sAt ss 11), .bool (((nv (sAt ss 10) : Nat) : Int) == 1)] ∧ w'.ownsRow w.heap.size 41 3 (.slice A' (xs.length + 1) c') (xs.length + 1) (entV xs ++ [.int .i64 (nv x : Nat), .int .i64 (nv y : Nat), .string z])) ∧ Blk w' b2 27 #[.int .i64 0, .int .i64 0, .int .i64 0, .int .i64 0, .int .i64 0, .int .i64 0, .int .i64 0, .int .i64 0, .bool false, .slice none 0 0, .int .i64 0, .string ⟨#[]⟩, .bool false] ∧ w'.ownsRow w.heap.size 3 1 (.slice (some ⟨g7, 0, none⟩) 2 c7) 2 ([x, y].map fun s => Value.int .i64 (nv s : Nat)) ∧ (S 13 = false → w'.ownsRow w.heap.size 41 3 (.slice A9 xs.length c9) xs.length (entV xs))) (by kernel_rfl) (by kernel_rfl) rfl rfl ⟨fun _ _ _ _ _ _ _ h => h, fun _ _ _ _ _ _ _ h => h, fun _ _ _ _ _ _ _ h => h, fun _ _ _ _ _ _ _ h => h, fun _ _ _ _ _ _ _ h => h, fun _ _ _ _ _ _ _ h => h, fun _ _ _ _ _ _ _ h => h, fun _ _ _ _ _ _ _ h => h, fun _ _ _ _ _ _ _ h => h, fun _ _ _ _ _ _ _ h => h, fun _ _ _ _ _ _ _ h => h, fun _ _ _ _ _ _ _ h => h, fun S i v w1 w2 hq hF ⟨g, h1, h2, h3⟩ => ⟨g, h1, h2, fun h0 => (h3 (setF h0)).from_ hF⟩, fun S i v w1 w2 hq hF ⟨h1, h2⟩ => ⟨fun h0 => let ⟨A2, c2, h3, h4⟩ := h1 (setF h0); ⟨A2, c2, h3, h4.kept_from hF⟩, h2⟩, fun _ _ _ _ _ _ _ h => h, trivial⟩ (fun S i w1 w2 hq hF h => ⟨Nat.le_trans h.1 hF.size, h.2.1.next hF, fun h0 => (h.2.2.1 (setF h0)).from_ hF, fun h0 => let ⟨A2, c2, h1, h2⟩ := h.2.2.2.1 (setT (by rintro rfl; cases hq) h0); ⟨A2, c2, h1.from_ hF, h2.kept_from hF⟩, h.2.2.2.2.1.from_ hF, h.2.2.2.2.2.1.kept_from hF, fun h0 => (h.2.2.2.2.2.2 (setF h0)).kept_from hF⟩) (⟨Nat.le_refl _, ((hB.next D117)).d1, fun _ => hk6.from_ From.rfl_.d1, fun h => (by cases h), hk2.from_ From.rfl_.d1, ho7.kept_from From.rfl_.d1, fun _ => ho9.kept_from From.rfl_.d1⟩)
                                  case hstep =>
                                   refine ⟨?_, ?_⟩
                                   · rintro S L' w120 hU hmo hme hI hM hC hS ⟨-⟩
                                     have hM' := hM
                                     obtain ⟨hz, hB120, hk6, hk6b, hk2, ho7, ho9⟩ := hM'
                                     have e6 := hI.1 6 (outP rfl)
                                     exact stepQ_ro [(6, _)] hU hmo hme hI hM (.head _) rfl rfl (by kernel_rfl) ⟨e6, trivial⟩ (ro_fieldAddr RpcDec_f27_9 rfl) From.rfl_ rfl
                                   refine ⟨?_, ?_⟩
                                   · rintro S L' w121 hU hmo hme hI hM hC hS ⟨d0, -⟩
                                     have hM' := hM
                                     obtain ⟨hz, hB121, hk6, hk6b, hk2, ho7, ho9⟩ := hM'
                                     obtain ⟨v121_101, e101, h101⟩ := hI.get (i := 0) (.head _) d0
                                     obtain rfl := h101
                                     exact stepQ_ro [(101, _)] hU hmo hme hI hM (.tail _ (.head _)) rfl rfl (by kernel_rfl) ⟨e101, trivial⟩ (ro_load RpcDec_g25 rfl ((hk6 (closed_old hC (j := 15) rfl (by kernel_rfl) hS)).rd 9 rfl)) (From.rfl_) (rfl)
                                   refine ⟨?_, ?_⟩
                                   · rintro S L' w122 hU hmo hme hI hM hC hS ⟨-⟩
                                     have hM' := hM
                                     obtain ⟨hz, hB122, hk6, hk6b, hk2, ho7, ho9⟩ := hM'
                                     have e7 := hI.1 7 (outP rfl)
                                     exact stepQ_ro [(7, _)] hU hmo hme hI hM (.tail _ (.tail _ (.head _))) rfl rfl (by kernel_rfl) ⟨e7, trivial⟩ (ro_move (v := .slice _ _ _) rfl) From.rfl_ rfl
                                   refine ⟨?_, ?_⟩
                                   · rintro S L' w123 hU hmo hme hI hM hC hS ⟨d2, -⟩
                                     have hM' := hM
                                     obtain ⟨hz, hB123, hk6, hk6b, hk2, ho7, ho9⟩ := hM'
                                     obtain ⟨v123_103, e103, h103⟩ := hI.get (i := 2) (.tail _ (.tail _ (.head _))) d2
                                     obtain rfl := h103
                                     exact stepQ_ro [(103, _)] hU hmo hme hI hM (.tail _ (.tail _ (.tail _ (.head _)))) rfl rfl (by kernel_rfl) ⟨e103, trivial⟩ (ro_indexAddr0 (i := 0) RpcDec_e64 rfl rfl (by omega)) From.rfl_ rfl
                                   refine ⟨?_, ?_⟩
                                   · rintro S L' w124 hU hmo hme hI hM hC hS ⟨d3, -⟩
                                     have hM' := hM
                                     obtain ⟨hz, hB124, hk6, hk6b, hk2, ho7, ho9⟩ := hM'
                                     obtain ⟨v124_104, e104, h104⟩ := hI.get (i := 3) (.tail _ (.tail _ (.tail _ (.head _)))) d3
                                     obtain rfl := h104
                                     exact stepQ_ro [(104, _)] hU hmo hme hI hM (.tail _ (.tail _ (.tail _ (.tail _ (.head _))))) rfl rfl (by kernel_rfl) ⟨e104, trivial⟩ (ro_load RpcDec_g3 rfl (by exact own_nv ho7 0 (by simp))) From.rfl_ rfl
                                   refine ⟨?_, ?_⟩
                                   · rintro S L' w125 hU hmo hme hI hM hC hS ⟨-⟩
                                     have hM' := hM
                                     obtain ⟨hz, hB125, hk6, hk6b, hk2, ho7, ho9⟩ := hM'
                                     have e7 := hI.1 7 (outP rfl)
                                     exact stepQ_ro [(7, _)] hU hmo hme hI hM (.tail _ (.tail _ (.tail _ (.tail _ (.tail _ (.head _)))))) rfl rfl (by kernel_rfl) ⟨e7, trivial⟩ (ro_move (v := .slice _ _ _) rfl) From.rfl_ rfl
                                   refine ⟨?_, ?_⟩
                                   · rintro S L' w126 hU hmo hme hI hM hC hS ⟨d5, -⟩
                                     have hM' := hM
                                     obtain ⟨hz, hB126, hk6, hk6b, hk2, ho7, ho9⟩ := hM'
                                     obtain ⟨v126_106, e106, h106⟩ := hI.get (i := 5) (.tail _ (.tail _ (.tail _ (.tail _ (.tail _ (.head _)))))) d5
                                     obtain rfl := h106
                                     exact stepQ_ro [(106, _)] hU hmo hme hI hM (.tail _ (.tail _ (.tail _ (.tail _ (.tail _ (.tail _ (.head _))))))) rfl rfl (by kernel_rfl) ⟨e106, trivial⟩ (ro_indexAddr0 (i := 1) RpcDec_e64 rfl rfl (by omega)) From.rfl_ rfl
                                   refine ⟨?_, ?_⟩
                                   · rintro S L' w127 hU hmo hme hI hM hC hS ⟨d6, -⟩
                                     have hM' := hM
                                     obtain ⟨hz, hB127, hk6, hk6b, hk2, ho7, ho9⟩ := hM'
                                     obtain ⟨v127_107, e107, h107⟩ := hI.get (i := 6) (.tail _ (.tail _ (.tail _ (.tail _ (.tail _ (.tail _ (.head _))))))) d6
                                     obtain rfl := h107
                                     exact stepQ_ro [(107, _)] hU hmo hme hI hM (.tail _ (.tail _ (.tail _ (.tail _ (.tail _ (.tail _ (.tail _ (.head _)))))))) rfl rfl (by kernel_rfl) ⟨e107, trivial⟩ (ro_load RpcDec_g3 rfl (by exact own_nv ho7 1 (by simp))) From.rfl_ rfl
                                   refine ⟨?_, ?_⟩
                                   · rintro S L' w128 hU hmo hme hI hM hC hS ⟨-⟩
                                     have hM' := hM
                                     obtain ⟨hz, hB128, hk6, hk6b, hk2, ho7, ho9⟩ := hM'
                                     have e0 := hI.1 0 (outP rfl)
                                     exact stepQ_ro [(0, _)] hU hmo hme hI hM (.tail _ (.tail _ (.tail _ (.tail _ (.tail _ (.tail _ (.tail _ (.tail _ (.head _))))))))) rfl rfl (by kernel_rfl) ⟨e0, trivial⟩ (ro_move (v := .slice _ _ _) rfl) From.rfl_ rfl
                                   refine ⟨?_, ?_⟩
                                   · rintro S L' w129 hU hmo hme hI hM hC hS ⟨d8, -⟩
                                     have hM' := hM
                                     obtain ⟨hz, hB129, hk6, hk6b, hk2, ho7, ho9⟩ := hM'
                                     obtain ⟨v129_109, e109, h109⟩ := hI.get (i := 8) (.tail _ (.tail _ (.tail _ (.tail _ (.tail _ (.tail _ (.tail _ (.tail _ (.head _))))))))) d8
                                     obtain rfl := h109
                                     exact stepQ_ro [(109, _)] hU hmo hme hI hM (.tail _ (.tail _ (.tail _ (.tail _ (.tail _ (.tail _ (.tail _ (.tail _ (.tail _ (.head _)))))))))) rfl rfl (by kernel_rfl) ⟨e109, trivial⟩ (ro_indexAddr1 (i := 2) RpcDec_e46 rfl rfl (by omega)) From.rfl_ rfl
                                   refine ⟨?_, ?_⟩
                                   · rintro S L' w130 hU hmo hme hI hM hC hS ⟨d9, -⟩
                                     have hM' := hM
                                     obtain ⟨hz, hB130, hk6, hk6b, hk2, ho7, ho9⟩ := hM'
                                     obtain ⟨v130_110, e110, h110⟩ := hI.get (i := 9) (.tail _ (.tail _ (.tail _ (.tail _ (.tail _ (.tail _ (.tail _ (.tail _ (.tail _ (.head _)))))))))) d9
                                     obtain rfl := h110
                                     exact stepQ_ro [(110, _)] hU hmo hme hI hM (.tail _ (.tail _ (.tail _ (.tail _ (.tail _ (.tail _ (.tail _ (.tail _ (.tail _ (.tail _ (.head _))))))))))) rfl rfl (by kernel_rfl) ⟨e110, trivial⟩ (ro_load RpcDec_g9 rfl (by exact str_at (hrow0.from_ hB130) 2 (by simp))) From.rfl_ rfl
                                   refine ⟨?_, ?_⟩
                                   · rintro S L' w131 hU hmo hme hI hM hC hS ⟨d4, d7, d10, -⟩
                                     have hM' := hM
                                     obtain ⟨hz, hB131, hk6, hk6b, hk2, ho7, ho9⟩ := hM'
                                     obtain ⟨v131_105, e105, h105⟩ := hI.get (i := 4) (.tail _ (.tail _ (.tail _ (.tail _ (.head _))))) d4
                                     obtain rfl := h105
                                     obtain ⟨v131_108, e108, h108⟩ := hI.get (i := 7) (.tail _ (.tail _ (.tail _ (.tail _ (.tail _ (.tail _ (.tail _ (.head _)))))))) d7
                                     obtain rfl := h108
                                     obtain ⟨v131_111, e111, h111⟩ := hI.get (i := 10) (.tail _ (.tail _ (.tail _ (.tail _ (.tail _ (.tail _ (.tail _ (.tail _ (.tail _ (.tail _ (.head _))))))))))) d10
                                     obtain rfl := h111
                                     exact stepQ_ro [(105, _), (108, _), (111, _)] hU hmo hme hI hM (.tail _ (.tail _ (.tail _ (.tail _ (.tail _ (.tail _ (.tail _ (.tail _ (.tail _ (.tail _ (.tail _ (.head _)))))))))))) rfl rfl (by kernel_rfl) ⟨e105, e108, e111, trivial⟩ (ro_build (l := [(0, .tmp 105), (1, .tmp 108), (2, .tmp 111)]) (RpcDec_b41_0_1_2 _ _ _)) From.rfl_ rfl
                                   refine ⟨?_, ?_⟩
                                   · rintro S L' w132 hU hmo hme hI hM hC hS ⟨d11, -⟩
                                     have hM' := hM
                                     obtain ⟨hz, hB132, hk6, hk6b, hk2, ho7, ho9⟩ := hM'
                                     obtain ⟨v132_112, e112, h112⟩ := hI.get (i := 11) (.tail _ (.tail _ (.tail _ (.tail _ (.tail _ (.tail _ (.tail _ (.tail _ (.tail _ (.tail _ (.tail _ (.head _)))))))))))) d11
                                     obtain rfl := h112
                                     exact stepQ_ro [(112, _)] hU hmo hme hI hM (.tail _ (.tail _ (.tail _ (.tail _ (.tail _ (.tail _ (.tail _ (.tail _ (.tail _ (.tail _ (.tail _ (.tail _ (.head _))))))))))))) rfl rfl (by kernel_rfl) ⟨e112, trivial⟩ (ro_lit (l := [(0, .tmp 112)]) (cells := [.int .i64 (nv x : Nat), .int .i64 (nv y : Nat), .string z].toArray) RpcDec_q25 rfl rfl (by show Instr.fill _ _ [(0, Value.agg #[.int .i64 (nv x : Nat), .int .i64 (nv y : Nat), .string z])] = _; kernel_rfl)) (From.rfl_.new _) (⟨_, rfl, fun q hq => by have := hlt9 q hq; omega, fun _ => Blk.new _ _ _⟩)
                                   refine ⟨?_, ?_⟩
                                   · rintro S L' w133 hU hmo hme hI hM hC hS ⟨d1, d12, -⟩
                                     have hM' := hM
                                     obtain ⟨hz, hB133, hk6, hk6b, hk2, ho7, ho9⟩ := hM'
                                     obtain ⟨v133_102, e102, h102⟩ := hI.get (i := 1) (.tail _ (.head _)) d1
                                     obtain rfl := h102
                                     obtain ⟨v133_113, e113, h113⟩ := hI.get (i := 12) (.tail _ (.tail _ (.tail _ (.tail _ (.tail _ (.tail _ (.tail _ (.tail _ (.tail _ (.tail _ (.tail _ (.tail _ (.head _))))))))))))) d12
                                     obtain ⟨g113, rfl, hx113, hk113⟩ := h113
                                     have h13 := ho9 hS
                                     have h15 : S 15 = false := closed_old hC (j := 15) rfl (by kernel_rfl) hS
                                     obtain ⟨A', c', w2, hR, ho, hg⟩ := ro_appendB (P := Tryd.prog) (ρ := ev 117 [(102, _), (113, _)]) (s := .tmp 102) (x := .tmp 113) (j := 1) (news := [.int .i64 (nv x : Nat), .int .i64 (nv y : Nat), .string z]) RpcDec_q25 rfl (by decide) rfl h13 hB133.size rfl rfl ⟨g113, 0, rfl, (hk113 hS).whole⟩ (by simp [Value.oneCell']) (by omega) (by omega)
                                     exact stepM_ro [(102, _), (113, _)] hU hI (.tail _ (.tail _ (.tail _ (.tail _ (.tail _ (.tail _ (.tail _ (.tail _ (.tail _ (.tail _ (.tail _ (.tail _ (.tail _ (.head _)))))))))))))) rfl (by kernel_rfl) ⟨e102, e113, trivial⟩ hR ⟨Nat.le_trans hz hg.size, hB133.grew hg (fun q hq => (own_at h13 q hq).1), fun h0 => (hk6 h15).grown hg (own_off h13 (hk6 h15) (by decide)), fun h0 => absurd (setT (by decide) h0) (by rw [h15]; decide), hk2.grown hg (own_off h13 hk2 (by decide)), own_grown2 ho7 hg (own_other h13 ho7 (by decide)), fun h0 => (by rw [setS] at h0; cases h0)⟩ ⟨fun _ => ⟨A', c', rfl, ho⟩, A', c', rfl⟩ ⟨fun _ _ _ h => h, fun _ _ _ h => h, fun _ _ _ h => h, fun _ _ _ h => h, fun _ _ _ h => h, fun _ _ _ h => h, fun _ _ _ h => h, fun _ _ _ h => h, fun _ _ _ h => h, fun _ _ _ h => h, fun _ _ _ h => h, fun _ _ _ h => h, fun _ _ _ ⟨g, h1, h2, h3⟩ => ⟨g, h1, h2, fun h0 => (by rw [setS] at h0; cases h0)⟩, (fun h => by cases h), fun _ _ _ h => h, trivial⟩
                                   refine ⟨?_, ?_⟩
                                   · rintro S L' w134 hU hmo hme hI hM hC hS ⟨d0, d1, d2, d3, d4, d5, d6, d7, d8, d9, d10, d11, d12, d13, -⟩
                                     have hM' := hM
                                     obtain ⟨hz, hB134, hk6, hk6b, hk2, ho7, ho9⟩ := hM'
                                     have e6 := hI.1 6 (outP rfl)
                                     exact stepQ_ro [(6, _)] hU hmo hme hI hM (.tail _ (.tail _ (.tail _ (.tail _ (.tail _ (.tail _ (.tail _ (.tail _ (.tail _ (.tail _ (.tail _ (.tail _ (.tail _ (.tail _ (.head _))))))))))))))) rfl rfl (by kernel_rfl) ⟨e6, trivial⟩ (ro_fieldAddr RpcDec_f27_9 rfl) From.rfl_ rfl
                                   refine ⟨?_, ?_⟩
                                   · rintro S L' w135 hU hmo hme hI hM hC hS ⟨d14, d13, d13, d0, d1, d2, d3, d4, d5, d6, d7, d8, d9, d10, d11, d12, d13, -⟩
                                     have hM' := hM
                                     obtain ⟨hz, hB135, hk6, hk6b, hk2, ho7, ho9⟩ := hM'
                                     obtain ⟨v135_114, e114, h114⟩ := hI.get (i := 13) (.tail _ (.tail _ (.tail _ (.tail _ (.tail _ (.tail _ (.tail _ (.tail _ (.tail _ (.tail _ (.tail _ (.tail _ (.tail _ (.head _)))))))))))))) d13
                                     obtain ⟨hx114, A114, c114, rfl⟩ := h114
                                     obtain ⟨v135_115, e115, h115⟩ := hI.get (i := 14) (.tail _ (.tail _ (.tail _ (.tail _ (.tail _ (.tail _ (.tail _ (.tail _ (.tail _ (.tail _ (.tail _ (.tail _ (.tail _ (.tail _ (.head _))))))))))))))) d14
                                     obtain rfl := h115
                                     obtain ⟨A2, c2, he2, ho2⟩ := hx114 hS
                                     cases he2
                                     have hkb := hk6 hS
                                     obtain ⟨w2, hR, hO, hb⟩ := rs_put (n := 117) (L := [(114, _), (115, _)]) (x := .tmp 115) (y := .tmp 114) (v := .slice A114 (xs.length + 1) c114) RpcDec_z25 rfl rfl rfl hkb (by show 0 + 9 < 13; decide)
                                     exact stepM_rs [(114, _), (115, _)] hI (idxP rfl) rfl (by kernel_rfl) ⟨e114, e115, trivial⟩ hR ⟨by rw [hO.size]; exact hz, hB135.only hO hg6, fun h0 => (by rw [setS] at h0; cases h0), fun _ => ⟨A114, c114, hb, own_only3 ho2 hO (own_off ho2 hkb (by decide))⟩, hk2.only hO (by omega), own_only3 ho7 hO (own_off ho7 hkb (by decide)), fun h0 => (by rw [setN (by decide)] at h0; rw [d13] at h0; cases h0)⟩ ⟨fun _ _ _ h => h, fun _ _ _ h => h, fun _ _ _ h => h, fun _ _ _ h => h, fun _ _ _ h => h, fun _ _ _ h => h, fun _ _ _ h => h, fun _ _ _ h => h, fun _ _ _ h => h, fun _ _ _ h => h, fun _ _ _ h => h, fun _ _ _ h => h, fun _ _ _ ⟨g, h1, h2, h3⟩ => ⟨g, h1, h2, fun h0 => (by rw [setN (by decide)] at h0; rw [d13] at h0; cases h0)⟩, fun _ _ _ h => ⟨fun h0 => (by rw [setS] at h0; cases h0), h.2⟩, fun _ _ _ h => h, trivial⟩
                                   exact trivial
                                  case hend =>
                                   intro w136 hM
                                   obtain ⟨hz, hB136, hk6, hk6b, hk2, ho7, ho9⟩ := hM
                                   rintro v136_101 rfl v136_102 rfl v136_103 rfl v136_104 rfl v136_105 rfl v136_106 rfl v136_107 rfl v136_108 rfl v136_109 rfl v136_110 rfl v136_111 rfl v136_112 rfl v136_113 ⟨g113, rfl, hx113, hk113⟩ v136_114 ⟨hx114, A114, c114, rfl⟩ v136_115 rfl
                                   refine allP_nil ?_
                                   obtain ⟨A14, c14, hk6c, ho14⟩ := hk6b rfl
                                   clear hk6
                                   have hk6 := hk6c
                                   refine nx_block ?_
                                   refine nx_then ?_
                                   refine cd_region ?_
                                   refine st_val (ro_move (v := .slice _ _ _) rfl) ?_
                                   refine st_val (ro_dropN (m := 3) RpcDec_e46 rfl rfl (by simp) hzc) ?_
                                   refine st_val (ro_assign (v := .slice _ _ _) rfl) ?_
                                   refine st_nil ?_
                                   refine nx_cut ((zs', (b, (if c0 = 3 then o else o + 3), c0 - 3), xs ++ [⟨(nv x : Nat), (nv y : Nat), z⟩], (A14, c14))) ⟨(congrArg (fun n => Value.slice _ n _) (show zs'.length + 1 + 1 + 1 - 3 = zs'.length by omega)), trivial⟩ (by (iterate 74 refine agr_cons rfl ?_); exact agr_rfl) ⟨?_, ?_⟩
                                   · refine ⟨rowO_drop hrow0 hzc (by simp), by simp only [List.length_cons] at hzc ⊢; omega, by simp only [List.length_cons] at hz3; omega, by simp only [List.length_cons, List.length_append, List.length_nil] at hzx ⊢; omega, fun s hs9 => hzs s (by simp [hs9]), ?_, ?_, ?_, hk2, hB136⟩
                                     · rw [hzeq]
                                       show Option.map _ (if (numS x).isSome = true ∧ (numS y).isSome = true then _ else _) = _
                                       rw [if_pos (allN2.1 hab)]
                                       cases entsS zs' <;> simp
                                     · rw [entV_snoc, List.length_append]; exact ho14
                                     · rw [List.length_append]; exact hk6
                                   · simp only [List.length_cons]; omega
                     · (try first | replace Q68 := bn_t Q68 | replace Q68 := bn_f Q68)
                       (try first | replace Q68 := bx_t Q68 | replace Q68 := bx_f Q68 | replace Q68 := be_t Q68 | replace Q68 := be_f Q68 | replace Q68 := of_decide_eq_true Q68 | replace Q68 := of_decide_eq_false Q68)
                       first
                        | (exfalso; first | omega | contradiction | (cases Q68; done))
                        | skip
                          refine cd_exit ?_
                          refine ex_then ?_
                          refine ex_then ?_
                          refine ex_block ?_
                          refine nx_then ?_
                          refine cd_seq ?_
                          refine cd_region ?_
                          refine st_val (ro_loadA (cs := [_, _, _, _, _, _, _, _, _, _, _, _, _]) RpcDec_g27 RpcDec_z27 rfl (by exact (hk6.from_ From.rfl_).whole)) ?_
                          refine st_putW (vs := [_, _, _, _, _, _, _, _, _, _, _, _, _]) RpcDec_z27 rfl rfl (by simp [Value.oneCell']) ((hk2.from_ From.rfl_)) rfl ?_
                          intro w137 O14 P14
                          refine st_val (ro_assign (v := .bool _) rfl) ?_
                          refine st_nil ?_
                          refine nx_then ?_
                          refine cd_ret ?_
                          refine resr2 rfl (rv_cellA (cs := [_, _, _, _, _, _, _, _, _, _, _, _, _]) RpcDec_g27 RpcDec_z27 rfl (by first | exact P2.whole | exact P5.whole | exact P12.whole | exact P14.whole)) (rv_tmp (v := .bool _) rfl) ?_
                          obtain rfl : zs = [] := List.eq_nil_of_length_eq_zero (by omega)
                          exact ⟨.inl ⟨xs, ⟨h12, hall, by omega, by omega, by rw [hzeq]; simp [entsS]⟩, A9, c9, rfl, own_only3 ho9 O14 (own_off ho9 hk2 (by decide))⟩, (hB.only O14 (hg2))⟩
            · apply cd_drawn 13 [(27, eqp _), (28, eqp _), (29, eqp _), (30, eqp _), (31, eqp _), (32, eqp _), (33, eqp _), (34, eqp _), (35, eqp _), (36, eqp _), (37, eqp _), (38, eqp _), (39, eqp _)] (by kernel_rfl) (by kernel_rfl) ⟨eqp_mono _, eqp_mono _, eqp_mono _, eqp_mono _, eqp_mono _, eqp_mono _, eqp_mono _, eqp_mono _, eqp_mono _, eqp_mono _, eqp_mono _, eqp_mono _, eqp_mono _, trivial⟩
              case hop =>
               refine ⟨?_, ?_⟩
               · intro w139 D139
                 show OpOK _ _ _ _ _ _ _
                 exact ok_pure (ro_move rfl) rfl
               refine ⟨?_, ?_⟩
               · intro w140 D140
                 rintro _ rfl
                 show OpOK _ _ _ _ _ _ _
                 exact ok_pure (ro_not rfl) rfl
               refine ⟨?_, ?_⟩
               · intro w141 D141
                 rintro _ rfl
                 show OpOK _ _ _ _ _ _ _
                 exact ok_pure (ro_move rfl) rfl
               refine ⟨?_, ?_⟩
               · intro w142 D142
                 rintro _ rfl
                 show OpOK _ _ _ _ _ _ _
                 exact ok_gno rfl rfl rfl
               refine ⟨?_, ?_⟩
               · intro w143 D143
                 rintro _ rfl _ rfl
                 show OpOK _ _ _ _ _ _ _
                 exact ok_gno rfl rfl rfl
               refine ⟨?_, ?_⟩
               · intro w144 D144
                 rintro _ rfl _ rfl
                 show OpOK _ _ _ _ _ _ _
                 exact ok_gno rfl rfl rfl
               refine ⟨?_, ?_⟩
               · intro w145 D145
                 rintro _ rfl
                 show OpOK _ _ _ _ _ _ _
                 exact ok_gno rfl rfl rfl
               refine ⟨?_, ?_⟩
               · intro w146 D146
                 rintro _ rfl _ rfl
                 show OpOK _ _ _ _ _ _ _
                 exact ok_gno rfl rfl rfl
               refine ⟨?_, ?_⟩
               · intro w147 D147
                 rintro _ rfl _ rfl
                 show OpOK _ _ _ _ _ _ _
                 exact ok_gno rfl rfl rfl
               refine ⟨?_, ?_⟩
               · intro w148 D148
                 rintro _ rfl _ rfl _ rfl
                 show OpOK _ _ _ _ _ _ _
                 exact ok_gno rfl rfl rfl
               refine ⟨?_, ?_⟩
               · intro w149 D149
                 rintro _ rfl _ rfl
                 show OpOK _ _ _ _ _ _ _
                 exact ok_gno rfl rfl rfl
               refine ⟨?_, ?_⟩
               · intro w150 D150
                 rintro _ rfl _ rfl
                 show OpOK _ _ _ _ _ _ _
                 exact ok_gno rfl rfl rfl
               refine ⟨?_, ?_⟩
               · intro w151 D151
                 rintro _ rfl _ rfl
                 show OpOK _ _ _ _ _ _ _
                 exact ok_pure (ro_pickT (v := .bool _) rfl rfl) rfl
               exact trivial
              case hend =>
               intro w152 D152
               rintro _ rfl _ rfl _ rfl _ rfl _ rfl _ rfl _ rfl _ rfl _ rfl _ rfl _ rfl _ rfl _ rfl
               show St _ _ _ _ _ _ _
               refine st_nil ?_
               refine nx_then ?_
               refine cd_condT rfl ?_
               refine cd_seq ?_
               refine cd_region ?_
               refine st_val (ro_build (l := []) (RpcDec_b27_)) ?_
               refine st_putW (vs := [_, _, _, _, _, _, _, _, _, _, _, _, _]) RpcDec_z27 rfl rfl (by simp [Value.oneCell']) ((hk2.from_ ((From.rfl_.next E24).next D152))) rfl ?_
               intro w153 O5 P5
               refine st_val (ro_assign (v := .bool _) rfl) ?_
               refine st_nil ?_
               refine nx_then ?_
               refine cd_ret ?_
               refine rt_then ?_
               refine resr2 rfl (rv_cellA (cs := [_, _, _, _, _, _, _, _, _, _, _, _, _]) RpcDec_g27 RpcDec_z27 rfl (by first | exact P2.whole | exact P5.whole | exact P12.whole | exact P14.whole)) (rv_tmp (v := .bool _) rfl) ?_
               first
                 | exact ⟨.inr ⟨fun es hg => hall hg.2.1, rfl⟩, ((((From.rfl_.next E2).next E24).next D152).only O5 (hg2))⟩
                 | exact ⟨.inr ⟨fun es hg => (by have h1 := hg.2.2.1; have h2 := hg.2.2.2.1; omega), rfl⟩, ((((From.rfl_.next E2).next E24).next D152).only O5 (hg2))⟩
end Go.Proofs.YtjliefglelcooaaDoor
