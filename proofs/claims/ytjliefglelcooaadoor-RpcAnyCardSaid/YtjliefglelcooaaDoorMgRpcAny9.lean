/- The law RpcAny: any bytes are a message, which is told by just these bytes, or none. -/
import Derived.Test.YtjliefglelcooaaDoorMgRpcAny7
import Derived.Test.YtjliefglelcooaaDoorMgRpcAny8
import Derived.Test.YtjliefglelcooaaDoorCards
import Derived.Test.YtjliefglelcooaaDoorTie
import Derived.Lib.LaidTab
namespace Go.Proofs.YtjliefglelcooaaDoor
open Go.RowKit
open Go.ChangeShapes Go.WideShapes Go.ChangeAt
theorem cons_of {α : Type} {l : List α} {k : Nat} (h : k + 1 ≤ l.length) : ∃ x r, l = x :: r ∧ k ≤ r.length := by
  cases l with
  | nil => simp at h
  | cons x r => exact ⟨x, r, rfl, by simpa using h⟩
theorem twelve {l : List ByteArray} (h : 12 ≤ l.length) : ∃ x0 x1 x2 x3 x4 x5 x6 x7 x8 x9 x10 x11 r, l = x0 :: x1 :: x2 :: x3 :: x4 :: x5 :: x6 :: x7 :: x8 :: x9 :: x10 :: x11 :: r := by
  obtain ⟨x0, r0, rfl, g0⟩ := cons_of h
  obtain ⟨x1, r1, rfl, g1⟩ := cons_of g0
  obtain ⟨x2, r2, rfl, g2⟩ := cons_of g1
  obtain ⟨x3, r3, rfl, g3⟩ := cons_of g2
  obtain ⟨x4, r4, rfl, g4⟩ := cons_of g3
  obtain ⟨x5, r5, rfl, g5⟩ := cons_of g4
  obtain ⟨x6, r6, rfl, g6⟩ := cons_of g5
  obtain ⟨x7, r7, rfl, g7⟩ := cons_of g6
  obtain ⟨x8, r8, rfl, g8⟩ := cons_of g7
  obtain ⟨x9, r9, rfl, g9⟩ := cons_of g8
  obtain ⟨x10, r10, rfl, g10⟩ := cons_of g9
  obtain ⟨x11, r11, rfl, g11⟩ := cons_of g10
  exact ⟨x0, x1, x2, x3, x4, x5, x6, x7, x8, x9, x10, x11, r11, rfl⟩
theorem entsS_back : ∀ {ss : List ByteArray} {es : List Ent}, entsS ss = some es → tsE es = ss
  | [], es, h => by cases h; rfl
  | [_], _, h => by cases h
  | [_, _], _, h => by cases h
  | x :: y :: z :: r, es, h => by
    unfold entsS at h
    split at h
    · rename_i hxy
      cases hr : entsS r with
      | none => rw [hr] at h; cases h
      | some es2 =>
        rw [hr] at h
        cases h
        have ih := entsS_back hr
        obtain ⟨p, hp⟩ := Option.isSome_iff_exists.1 hxy.1
        obtain ⟨q, hq⟩ := Option.isSome_iff_exists.1 hxy.2
        show [strOf (nums ((nv x : Nat) : Int).toNat), strOf (nums ((nv y : Nat) : Int).toNat), z] ++ tsE es2 = _
        rw [ih, nv_is hp, nv_is hq, Int.toNat_natCast, Int.toNat_natCast, ← (numS_back hp).1, ← (numS_back hq).1]
        rfl
    · cases h
theorem str_nv {s : ByteArray} (h : (numS s).isSome = true) : strOf (nums ((nv s : Nat) : Int).toNat) = s := by
  obtain ⟨p, hp⟩ := Option.isSome_iff_exists.1 h
  rw [nv_is hp, Int.toNat_natCast, ← (numS_back hp).1]
theorem bit_nat {m : Nat} (h : m ≤ 1) : ((((m : Nat) : Int) == 1).toNat : Nat) = m := by
  have : m = 0 ∨ m = 1 := by omega
  rcases this with rfl | rfl <;> rfl
theorem tsR_back {ss : List ByteArray} {es : List Ent} (h : goodS ss es) : tsR (nv (sAt ss 0) : Nat) (nv (sAt ss 1) : Nat) (nv (sAt ss 2) : Nat) (nv (sAt ss 3) : Nat) (nv (sAt ss 4) : Nat) (nv (sAt ss 5) : Nat) (nv (sAt ss 6) : Nat) (nv (sAt ss 7) : Nat) (((nv (sAt ss 9) : Nat) : Int) == 1) es (nv (sAt ss 8) : Nat) (sAt ss 11) (((nv (sAt ss 10) : Nat) : Int) == 1) = ss := by
  obtain ⟨h1, h2, h3, h4, h5⟩ := h
  have h6 := entsS_back h5
  obtain ⟨x0, x1, x2, x3, x4, x5, x6, x7, x8, x9, x10, x11, r, rfl⟩ := twelve h1
  have hx : ∀ x ∈ [x0, x1, x2, x3, x4, x5, x6, x7, x8, x9, x10], (numS x).isSome = true := h2
  unfold tsR hdR numsS
  rw [h6]
  simp only [List.mem_cons, List.not_mem_nil, or_false, forall_eq_or_imp, forall_eq] at hx
  obtain ⟨q0, q1, q2, q3, q4, q5, q6, q7, q8, q9, q10⟩ := hx
  have e9 := bit_nat h3
  have e10 := bit_nat h4
  simp only [List.map_cons, List.map_nil, e9, e10]
  show [strOf (nums ((nv x0 : Nat) : Int).toNat), strOf (nums ((nv x1 : Nat) : Int).toNat), strOf (nums ((nv x2 : Nat) : Int).toNat), strOf (nums ((nv x3 : Nat) : Int).toNat), strOf (nums ((nv x4 : Nat) : Int).toNat), strOf (nums ((nv x5 : Nat) : Int).toNat), strOf (nums ((nv x6 : Nat) : Int).toNat), strOf (nums ((nv x7 : Nat) : Int).toNat), strOf (nums ((nv x8 : Nat) : Int).toNat), strOf (nums ((nv x9 : Nat) : Int).toNat), strOf (nums ((nv x10 : Nat) : Int).toNat)] ++ [x11] ++ r = _
  rw [str_nv q0, str_nv q1, str_nv q2, str_nv q3, str_nv q4, str_nv q5, str_nv q6, str_nv q7, str_nv q8, str_nv q9, str_nv q10]
  rfl
theorem encR_back {l : List Nat} {ss : List ByteArray} {es : List Ent} (hl : ∀ b ∈ l, b < 256) (h : goodD l ss es) : (putB (tsR (nv (sAt ss 0) : Nat) (nv (sAt ss 1) : Nat) (nv (sAt ss 2) : Nat) (nv (sAt ss 3) : Nat) (nv (sAt ss 4) : Nat) (nv (sAt ss 5) : Nat) (nv (sAt ss 6) : Nat) (nv (sAt ss 7) : Nat) (((nv (sAt ss 9) : Nat) : Int) == 1) es (nv (sAt ss 8) : Nat) (sAt ss 11) (((nv (sAt ss 10) : Nat) : Int) == 1))).length = l.length - 4 ∧ l.length - 4 ≤ 1048576 ∧ encR (tsR (nv (sAt ss 0) : Nat) (nv (sAt ss 1) : Nat) (nv (sAt ss 2) : Nat) (nv (sAt ss 3) : Nat) (nv (sAt ss 4) : Nat) (nv (sAt ss 5) : Nat) (nv (sAt ss 6) : Nat) (nv (sAt ss 7) : Nat) (((nv (sAt ss 9) : Nat) : Int) == 1) es (nv (sAt ss 8) : Nat) (sAt ss 11) (((nv (sAt ss 10) : Nat) : Int) == 1)) = l := by
  obtain ⟨h1, h2, h3, h4, h5⟩ := h
  rw [tsR_back h4]
  obtain ⟨g1, g2⟩ := getB_back (fun b hb => hl b (List.mem_of_mem_take hb)) h3
  rw [List.length_take] at g2
  refine ⟨by rw [g1, List.length_take]; omega, by omega, ?_⟩
  unfold encR
  rw [g1, ← h2, List.take_append_drop]
theorem encL_le_n {n : Nat} (hn : n ≤ 9223372036854775807) : ∀ (ts : List ByteArray), (∀ s ∈ ts, s.size ≤ n) → (encL ts).length ≤ ts.length * (n + 9)
  | [], _ => by simp [encL]
  | x :: r, h => by
    have ih := encL_le_n hn r (fun s hs => h s (.tail _ hs))
    have h1 := h x (.head _)
    have h2 := nums_len9 (show x.size ≤ 9223372036854775807 by omega)
    rw [encL, List.length_append, encS_length, List.length_cons, Nat.succ_mul]
    omega
theorem fit_ok {k f t tm ix lt cm rd : Int} {ok : Bool} {es : List Ent} {a : Int} {d : ByteArray} {dn : Bool} (h : OkR k f t tm ix lt cm rd ok es a d dn) : (putB (tsR k f t tm ix lt cm rd ok es a d dn)).length ≤ 1048576 := by
  obtain ⟨h1, h2, h3⟩ := okR_ents h
  have hnum := h.1
  unfold NumR at hnum
  have hlen : (tsR k f t tm ix lt cm rd ok es a d dn).length = 12 + 3 * es.length := by unfold tsR; rw [List.length_append, List.length_append, tsE_len, numsS_len]; rfl
  have hs : ∀ s ∈ tsR k f t tm ix lt cm rd ok es a d dn, s.size ≤ 4096 := by
    intro s hs
    unfold tsR at hs
    rcases List.mem_append.1 hs with hs | hs
    · rcases List.mem_append.1 hs with hs | hs
      · unfold numsS at hs
        obtain ⟨x, hx, rfl⟩ := List.mem_map.1 hs
        rw [strOf_size]
        have hx9 : x.toNat ≤ 9223372036854775807 := by
          unfold hdR at hx
          simp only [List.mem_cons, List.not_mem_nil, or_false] at hx
          have o1 : ok.toNat ≤ 1 := by cases ok <;> decide
          have o2 : dn.toNat ≤ 1 := by cases dn <;> decide
          omega
        have := nums_len9 hx9
        omega
      · simp only [List.mem_singleton] at hs
        subst hs
        omega
    · unfold tsE at hs
      obtain ⟨e, he, hs⟩ := List.mem_flatMap.1 hs
      obtain ⟨e1, e2, e3⟩ := h2 e he
      simp only [List.mem_cons, List.not_mem_nil, or_false] at hs
      rcases hs with rfl | rfl | rfl
      · rw [strOf_size]
        have := nums_len9 (show e.i.toNat ≤ 9223372036854775807 by omega)
        omega
      · rw [strOf_size]
        have := nums_len9 (show e.t.toNat ≤ 9223372036854775807 by omega)
        omega
      · exact e3
  have h4 := encL_le_n (n := 4096) (by omega) (tsR k f t tm ix lt cm rd ok es a d dn) hs
  have h5 := nums_len9 (show (tsR k f t tm ix lt cm rd ok es a d dn).length ≤ 9223372036854775807 by omega)
  rw [putB, List.length_append]
  rw [hlen] at h4 h5 ⊢
  omega
theorem entsS_of : ∀ {es : List Ent}, (∀ e ∈ es, (0 ≤ e.i ∧ e.i ≤ 1099511627776) ∧ (0 ≤ e.t ∧ e.t ≤ 1099511627775) ∧ e.d.size ≤ 4096) → entsS (tsE es) = some es
  | [], _ => rfl
  | e :: r, h => by
    obtain ⟨h1, h2, _⟩ := h e (.head _)
    have ih := entsS_of (fun x hx => h x (.tail _ hx))
    have a1 : numS (strOf (nums e.i.toNat)) = some e.i.toNat := numS_nums (by omega)
    have a2 : numS (strOf (nums e.t.toNat)) = some e.t.toNat := numS_nums (by omega)
    show (if (numS (strOf (nums e.i.toNat))).isSome = true ∧ (numS (strOf (nums e.t.toNat))).isSome = true then (entsS (tsE r)).map fun es => (⟨(nv (strOf (nums e.i.toNat)) : Nat), (nv (strOf (nums e.t.toNat)) : Nat), e.d⟩ : Ent) :: es else none) = _
    rw [if_pos (by rw [a1, a2]; exact ⟨rfl, rfl⟩), ih, nv_is a1, nv_is a2]
    simp only [Option.map_some, Option.some.injEq, List.cons.injEq, and_true]
    rw [Int.toNat_of_nonneg h1.1, Int.toNat_of_nonneg h2.1]
theorem ts_vals {k f t tm ix lt cm rd : Int} {ok : Bool} {es : List Ent} {a : Int} {d : ByteArray} {dn : Bool} (h : OkR k f t tm ix lt cm rd ok es a d dn) : goodS (tsR k f t tm ix lt cm rd ok es a d dn) es ∧ ((nv (sAt (tsR k f t tm ix lt cm rd ok es a d dn) 0) : Nat) : Int) = k ∧ ((nv (sAt (tsR k f t tm ix lt cm rd ok es a d dn) 1) : Nat) : Int) = f ∧ ((nv (sAt (tsR k f t tm ix lt cm rd ok es a d dn) 2) : Nat) : Int) = t ∧ ((nv (sAt (tsR k f t tm ix lt cm rd ok es a d dn) 3) : Nat) : Int) = tm ∧ ((nv (sAt (tsR k f t tm ix lt cm rd ok es a d dn) 4) : Nat) : Int) = ix ∧ ((nv (sAt (tsR k f t tm ix lt cm rd ok es a d dn) 5) : Nat) : Int) = lt ∧ ((nv (sAt (tsR k f t tm ix lt cm rd ok es a d dn) 6) : Nat) : Int) = cm ∧ ((nv (sAt (tsR k f t tm ix lt cm rd ok es a d dn) 7) : Nat) : Int) = rd ∧ ((nv (sAt (tsR k f t tm ix lt cm rd ok es a d dn) 8) : Nat) : Int) = a ∧ (((nv (sAt (tsR k f t tm ix lt cm rd ok es a d dn) 9) : Nat) : Int) == 1) = ok ∧ (((nv (sAt (tsR k f t tm ix lt cm rd ok es a d dn) 10) : Nat) : Int) == 1) = dn ∧ sAt (tsR k f t tm ix lt cm rd ok es a d dn) 11 = d := by
  obtain ⟨h1, h2, h3⟩ := okR_ents h
  have hnum := h.1
  unfold NumR at hnum
  have o1 : ok.toNat ≤ 1 := by cases ok <;> decide
  have o2 : dn.toNat ≤ 1 := by cases dn <;> decide
  have val : ∀ x : Int, 0 ≤ x → x ≤ 9223372036854775807 → numS (strOf (nums x.toNat)) = some x.toNat := fun x a b => numS_nums (by omega)
  have nvv : ∀ x : Int, 0 ≤ x → x ≤ 9223372036854775807 → ((nv (strOf (nums x.toNat)) : Nat) : Int) = x := fun x a b => by rw [nv_is (val x a b), Int.toNat_of_nonneg a]
  have e9 : ((nv (strOf (nums ((ok.toNat : Nat) : Int).toNat)) : Nat) : Int) = (ok.toNat : Nat) := nvv _ (by omega) (by omega)
  have e10 : ((nv (strOf (nums ((dn.toNat : Nat) : Int).toNat)) : Nat) : Int) = (dn.toNat : Nat) := nvv _ (by omega) (by omega)
  have hlen : (tsR k f t tm ix lt cm rd ok es a d dn).length = 12 + 3 * es.length := by unfold tsR; rw [List.length_append, List.length_append, tsE_len, numsS_len]; rfl
  refine ⟨⟨by omega, ?_, ?_, ?_, ?_⟩, nvv k (by omega) (by omega), nvv f (by omega) (by omega), nvv t (by omega) (by omega), nvv tm (by omega) (by omega), nvv ix (by omega) (by omega), nvv lt (by omega) (by omega), nvv cm (by omega) (by omega), nvv rd (by omega) (by omega), nvv a (by omega) (by omega), ?_, ?_, rfl⟩
  · show allN (numsS (hdR k f t tm ix lt cm rd ok a dn))
    intro s hs
    unfold numsS at hs
    obtain ⟨x, hx, rfl⟩ := List.mem_map.1 hs
    unfold hdR at hx
    simp only [List.mem_cons, List.not_mem_nil, or_false] at hx
    rw [val x (by omega) (by omega)]
    rfl
  · have : ((nv (sAt (tsR k f t tm ix lt cm rd ok es a d dn) 9) : Nat) : Int) = (ok.toNat : Nat) := e9
    omega
  · have : ((nv (sAt (tsR k f t tm ix lt cm rd ok es a d dn) 10) : Nat) : Int) = (dn.toNat : Nat) := e10
    omega
  · exact entsS_of h2
  · have : ((nv (sAt (tsR k f t tm ix lt cm rd ok es a d dn) 9) : Nat) : Int) = (ok.toNat : Nat) := e9
    rw [this]
    cases ok <;> rfl
  · have : ((nv (sAt (tsR k f t tm ix lt cm rd ok es a d dn) 10) : Nat) : Int) = (dn.toNat : Nat) := e10
    rw [this]
    cases dn <;> rfl
theorem goodD_enc {k f t tm ix lt cm rd : Int} {ok : Bool} {es : List Ent} {a : Int} {d : ByteArray} {dn : Bool} (h : OkR k f t tm ix lt cm rd ok es a d dn) : goodD (encR (tsR k f t tm ix lt cm rd ok es a d dn)) (tsR k f t tm ix lt cm rd ok es a d dn) es ∧ ∀ b ∈ encR (tsR k f t tm ix lt cm rd ok es a d dn), b < 256 := by
  have hf := fit_ok h
  obtain ⟨g1, g2⟩ := putB_ok rfl hf
  obtain ⟨v, v0, v1, v2, v3, v4, v5, v6, v7, v8, v9, v10, v11⟩ := ts_vals h
  have hl : (encR (tsR k f t tm ix lt cm rd ok es a d dn)).length = (putB (tsR k f t tm ix lt cm rd ok es a d dn)).length + 4 := by unfold encR; rw [List.length_append, ck_len]
  have ht : (encR (tsR k f t tm ix lt cm rd ok es a d dn)).take ((encR (tsR k f t tm ix lt cm rd ok es a d dn)).length - 4) = putB (tsR k f t tm ix lt cm rd ok es a d dn) := by rw [hl]; unfold encR; exact List.take_left' (by omega)
  have hd : (encR (tsR k f t tm ix lt cm rd ok es a d dn)).drop ((encR (tsR k f t tm ix lt cm rd ok es a d dn)).length - 4) = ck (putB (tsR k f t tm ix lt cm rd ok es a d dn)) := by rw [hl]; unfold encR; exact List.drop_left' (by omega)
  refine ⟨⟨by omega, by rw [ht, hd], by rw [ht]; exact getB_putB g1 hf, v, ?_⟩, fun b hb => ?_⟩
  · unfold OkS
    rw [v0, v1, v2, v3, v4, v5, v6, v7, v8, v9, v10, v11]
    exact h
  · unfold encR at hb
    rcases List.mem_append.1 hb with hb | hb
    · exact g2 b hb
    · exact ck_byte _ b hb
end Go.Proofs.YtjliefglelcooaaDoor

namespace Go.Proofs.YtjliefglelcooaaDoor
open Go.RowKit
open Go.ChangeShapes Go.WideShapes Go.ChangeAt
theorem RpcLaw_e23 : elemQ Tryd.prog 23 = some (5, 1) := by kernel_rfl
theorem RpcLaw_l23 : (elemQ Tryd.prog 23).isSome = true := by kernel_rfl
theorem RpcLaw_g5 : aggQ Tryd.prog 5 = some false := by kernel_rfl
theorem RpcLaw_q23 : litQ Tryd.prog 23 = some (5, 1, 1, (.int .u8 0)) := by kernel_rfl
theorem RpcLaw_b27_0cinti642_1cinti641_2cinti642_3cinti643_8cbooltrue : Tryd.prog.built 27 [(0, .int .i64 2), (1, .int .i64 1), (2, .int .i64 2), (3, .int .i64 3), (8, .bool true)] = some #[.int .i64 2, .int .i64 1, .int .i64 2, .int .i64 3, .int .i64 0, .int .i64 0, .int .i64 0, .int .i64 0, .bool true, .slice none 0 0, .int .i64 0, .string ⟨#[]⟩, .bool false] := by kernel_rfl
theorem RpcLaw_o27 : zeroQ Tryd.prog 27 = some (.agg #[.int .i64 0, .int .i64 0, .int .i64 0, .int .i64 0, .int .i64 0, .int .i64 0, .int .i64 0, .int .i64 0, .bool false, .slice none 0 0, .int .i64 0, .string ⟨#[]⟩, .bool false]) := by kernel_rfl
theorem RpcLaw_z27 : sizeQ Tryd.prog 27 = some 13 := by kernel_rfl
theorem RpcLaw_g27 : aggQ Tryd.prog 27 = some true := by kernel_rfl
theorem RpcLaw_k10 : callable Tryd.prog 10 = true := by kernel_rfl
theorem RpcLaw_k6 : callable Tryd.prog 6 = true := by kernel_rfl
theorem RpcLaw_k8 : callable Tryd.prog 8 = true := by kernel_rfl
theorem RpcLaw_k9 : callable Tryd.prog 9 = true := by kernel_rfl
set_option maxRecDepth 100000 in
set_option maxHeartbeats 400000 in
theorem copyBytes_any (A : Option Addr) (c : Nat) (l : List Nat) (w : World) (hr : RowOf bV w A l) (hl : l.length * 1 ≤ 140737488351232) :
    Rt Tryd.prog 5 [.slice A l.length c] w (fun v w' => ∃ A' c', v = .slice A' l.length c' ∧ w'.ownsRow w.heap.size 5 1 v l.length (l.map bV) ∧ From w w') := by
  refine enter (n := 19) Tryd.func5 rfl rfl rfl ?_
  refine cd_seq ?_
  refine cd_region ?_
  refine st_val (ro_assign (v := .slice _ _ _) rfl) ?_
  refine st_nil ?_
  refine nx_then ?_
  refine cd_seq ?_
  refine cd_region ?_
  refine st_val (ro_assign (v := .slice _ _ _) rfl) ?_
  refine st_nil ?_
  refine nx_then ?_
  refine cd_seq ?_
  refine cd_seq ?_
  refine cd_region ?_
  refine st_val (ro_assign (v := .int _ _) rfl) ?_
  refine st_nil ?_
  refine nx_then ?_
  refine cd_block ?_
  refine cd_loop (G := Nat × Option Addr × Nat) [5, 6, 7, 8, 9, 10, 11, 12, 13, 14, 15, 16, 17] (fun g => [(3, .slice g.2.1 g.1 g.2.2), (4, .int .i64 (g.1 : Nat))]) (fun g w' => g.1 ≤ l.length ∧ w'.ownsRow w.heap.size 5 1 (.slice g.2.1 g.1 g.2.2) g.1 ((l.take g.1).map bV) ∧ From w w') (fun g => l.length - g.1) ((0, none, 0)) ⟨rfl, rfl, trivial⟩ ?_ ?_
  · exact ⟨Nat.zero_le _, World.ownsRow_nil _ _ _ _, From.rfl_⟩
  rintro ⟨k, A3, c3⟩ ρ1 w1 ⟨hk, ho, hB⟩
  simp only at hk ho
  refine cd_seq ?_
  refine cd_seq ?_
  refine cd_region ?_
  refine st_val (ro_move (v := .int _ _) rfl) ?_
  refine st_val (ro_move (v := .slice _ _ _) rfl) ?_
  refine st_val (ro_len RpcLaw_l23 rfl) ?_
  refine st_val (ro_lss rfl rfl) ?_
  refine st_nil ?_
  refine nx_then ?_
  refine cd_cond rfl (fun Q2 => ?_) (fun Q2 => ?_)
  · (try first | replace Q2 := bn_t Q2 | replace Q2 := bn_f Q2)
    (try first | replace Q2 := bx_t Q2 | replace Q2 := bx_f Q2 | replace Q2 := be_t Q2 | replace Q2 := be_f Q2 | replace Q2 := of_decide_eq_true Q2 | replace Q2 := of_decide_eq_false Q2)
    obtain ⟨ba, oa, rfl, ca⟩ := hr (by omega)
    first
     | (exfalso; first | omega | contradiction | (cases Q2; done))
     | skip
       refine cd_skip ?_
       refine nx_then ?_
       refine cd_seq ?_
       refine cd_block ?_
       refine cd_region ?_
       refine st_val (ro_move (v := .slice _ _ _) rfl) ?_
       refine st_val (ro_move (v := .slice _ _ _) rfl) ?_
       refine st_val (ro_move (v := .int _ _) rfl) ?_
       refine st_val (ro_indexAddr1 RpcLaw_e23 rfl rfl (by omega)) ?_
       refine st_val (ro_load RpcLaw_g5 rfl (by first | (exact cellF hB (ca k (by omega))))) ?_
       refine st_lit1 (v := .int _ _) RpcLaw_q23 rfl rfl rfl ?_
       intro b16 w3 E16 hb16 hk16
       refine st_push1 (a0 := w) RpcLaw_q23 rfl rfl (ho.kept_from E16) (hB.next E16) rfl hk16 rfl (by omega) (by omega) ?_
       intro A17 c17 w4 ho17 B17 hg17
       refine st_val (ro_assign (v := .slice _ _ _) rfl) ?_
       refine st_nil ?_
       refine nx_block ?_
       refine nx_then ?_
       refine cd_region ?_
       refine st_val (ro_move (v := .int _ _) rfl) ?_
       refine st_val (ro_add64 rfl rfl (by omega)) ?_
       refine st_val (ro_assign (v := .int _ _) rfl) ?_
       refine st_nil ?_
       refine nx_cut ((k + 1, A17, c17)) ⟨(by first | rfl | (refine int_eq ?_; omega)), (by first | rfl | (refine int_eq ?_; omega)), trivial⟩ (by (iterate 30 refine agr_cons rfl ?_); exact agr_rfl) ⟨?_, ?_⟩
       · exact ⟨by simp only; omega, by rw [map_take_succ bV (by omega)]; exact ho17, B17⟩
       · simp only; omega
  · (try first | replace Q2 := bn_t Q2 | replace Q2 := bn_f Q2)
    (try first | replace Q2 := bx_t Q2 | replace Q2 := bx_f Q2 | replace Q2 := be_t Q2 | replace Q2 := be_f Q2 | replace Q2 := of_decide_eq_true Q2 | replace Q2 := of_decide_eq_false Q2)
    first
     | (exfalso; first | omega | contradiction | (cases Q2; done))
     | skip
       refine cd_exit ?_
       refine ex_then ?_
       refine ex_then ?_
       refine ex_block ?_
       refine nx_then ?_
       refine cd_seq ?_
       refine cd_region ?_
       refine st_val (ro_move (v := .slice _ _ _) rfl) ?_
       refine st_val (ro_assign (v := .slice _ _ _) rfl) ?_
       refine st_nil ?_
       refine nx_then ?_
       refine cd_ret ?_
       refine res1 (v := .slice _ _ _) rfl rfl ?_
       obtain rfl : k = l.length := by omega
       exact ⟨A3, c3, rfl, by rwa [List.take_length] at ho, hB⟩
set_option maxRecDepth 100000 in
set_option maxHeartbeats 400000 in
theorem eqBytes_any (A B : Option Addr) (ca cb : Nat) (a b : List Nat) (w : World) (ha : RowOf bV w A a) (hb : RowOf bV w B b) (hla : a.length * 1 ≤ 140737488351232) :
    Rt Tryd.prog 7 [.slice A a.length ca, .slice B b.length cb] w (fun v w' => v = .bool (decide (a = b)) ∧ From w w') := by
  refine enter (n := 26) Tryd.func7 rfl rfl rfl ?_
  refine cd_seq ?_
  refine cd_region ?_
  refine st_val (ro_assign (v := .bool _) rfl) ?_
  refine st_nil ?_
  refine nx_then ?_
  refine cd_seq ?_
  refine cd_seq ?_
  refine cd_region ?_
  refine st_val (ro_move (v := .slice _ _ _) rfl) ?_
  refine st_val (ro_len RpcLaw_l23 rfl) ?_
  refine st_val (ro_move (v := .slice _ _ _) rfl) ?_
  refine st_val (ro_len RpcLaw_l23 rfl) ?_
  refine st_val (ro_neq rfl rfl) ?_
  refine st_nil ?_
  refine nx_then ?_
  refine cd_cond rfl (fun Q1 => ?_) (fun Q1 => ?_)
  · (try first | replace Q1 := bn_t Q1 | replace Q1 := bn_f Q1)
    (try first | replace Q1 := bx_t Q1 | replace Q1 := bx_f Q1 | replace Q1 := be_t Q1 | replace Q1 := be_f Q1 | replace Q1 := of_decide_eq_true Q1 | replace Q1 := of_decide_eq_false Q1)
    first
     | (exfalso; first | omega | contradiction | (cases Q1; done))
     | skip
       refine cd_seq ?_
       refine cd_region ?_
       refine st_val (ro_assign (v := .bool _) rfl) ?_
       refine st_nil ?_
       refine nx_then ?_
       refine cd_ret ?_
       refine rt_then ?_
       refine res1 (v := .bool _) rfl rfl ?_
       exact ⟨by rw [decide_eq_false]; rintro rfl; omega, From.rfl_⟩
  · (try first | replace Q1 := bn_t Q1 | replace Q1 := bn_f Q1)
    (try first | replace Q1 := bx_t Q1 | replace Q1 := bx_f Q1 | replace Q1 := be_t Q1 | replace Q1 := be_f Q1 | replace Q1 := of_decide_eq_true Q1 | replace Q1 := of_decide_eq_false Q1)
    first
     | (exfalso; first | omega | contradiction | (cases Q1; done))
     | skip
       refine cd_skip ?_
       refine nx_then ?_
       refine cd_seq ?_
       refine cd_seq ?_
       refine cd_region ?_
       refine st_val (ro_assign (v := .int _ _) rfl) ?_
       refine st_nil ?_
       refine nx_then ?_
       refine cd_block ?_
       refine cd_loop (G := Nat) [4, 11, 12, 13, 14, 15, 16, 17, 18, 19, 20, 21, 22, 23, 24, 25] (fun k => [(5, .int .i64 (k : Nat))]) (fun k w' => k ≤ a.length ∧ a.take k = b.take k ∧ From w w') (fun k => a.length - k) (0) ⟨rfl, trivial⟩ ?_ ?_
       · exact ⟨Nat.zero_le _, rfl, From.rfl_⟩
       rintro k ρ2 w2 ⟨hk, ht, hB⟩
       refine cd_seq ?_
       refine cd_seq ?_
       refine cd_region ?_
       refine st_val (ro_move (v := .int _ _) rfl) ?_
       refine st_val (ro_move (v := .slice _ _ _) rfl) ?_
       refine st_val (ro_len RpcLaw_l23 rfl) ?_
       refine st_val (ro_lss rfl rfl) ?_
       refine st_nil ?_
       refine nx_then ?_
       refine cd_cond rfl (fun Q3 => ?_) (fun Q3 => ?_)
       · (try first | replace Q3 := bn_t Q3 | replace Q3 := bn_f Q3)
         (try first | replace Q3 := bx_t Q3 | replace Q3 := bx_f Q3 | replace Q3 := be_t Q3 | replace Q3 := be_f Q3 | replace Q3 := of_decide_eq_true Q3 | replace Q3 := of_decide_eq_false Q3)
         obtain ⟨ba, oa, rfl, ca⟩ := ha (by omega)
         obtain ⟨bb, ob, rfl, cb⟩ := hb (by omega)
         first
          | (exfalso; first | omega | contradiction | (cases Q3; done))
          | skip
            refine cd_skip ?_
            refine nx_then ?_
            refine cd_seq ?_
            refine cd_block ?_
            refine cd_seq ?_
            apply cd_drawn 9 [(17, eqp _), (18, eqp _), (19, eqp _), (20, eqp _), (21, eqp _), (22, eqp _), (23, eqp _), (24, eqp _), (25, eqp _)] (by kernel_rfl) (by kernel_rfl) ⟨eqp_mono _, eqp_mono _, eqp_mono _, eqp_mono _, eqp_mono _, eqp_mono _, eqp_mono _, eqp_mono _, eqp_mono _, trivial⟩
            case hop =>
             refine ⟨?_, ?_⟩
             · intro w5 D5
               show OpOK _ _ _ _ _ _ _
               exact ok_pure (ro_move (v := .slice _ _ _) rfl) rfl
             refine ⟨?_, ?_⟩
             · intro w6 D6
               show OpOK _ _ _ _ _ _ _
               exact ok_pure (ro_move (v := .int _ _) rfl) rfl
             refine ⟨?_, ?_⟩
             · intro w7 D7
               rintro _ rfl _ rfl
               show OpOK _ _ _ _ _ _ _
               exact ok_pure (ro_indexAddr1 RpcLaw_e23 rfl rfl (by omega)) rfl
             refine ⟨?_, ?_⟩
             · intro w8 D8
               rintro _ rfl
               show OpOK _ _ _ _ _ _ _
               exact ok_pure (ro_load RpcLaw_g5 rfl (by first | (exact cellF (hB.next D8) (ca k (by omega))) | (exact cellF (hB.next D8) (cb k (by omega))))) rfl
             refine ⟨?_, ?_⟩
             · intro w9 D9
               show OpOK _ _ _ _ _ _ _
               exact ok_pure (ro_move (v := .slice _ _ _) rfl) rfl
             refine ⟨?_, ?_⟩
             · intro w10 D10
               show OpOK _ _ _ _ _ _ _
               exact ok_pure (ro_move (v := .int _ _) rfl) rfl
             refine ⟨?_, ?_⟩
             · intro w11 D11
               rintro _ rfl _ rfl
               show OpOK _ _ _ _ _ _ _
               exact ok_pure (ro_indexAddr1 RpcLaw_e23 rfl rfl (by omega)) rfl
             refine ⟨?_, ?_⟩
             · intro w12 D12
               rintro _ rfl
               show OpOK _ _ _ _ _ _ _
               exact ok_pure (ro_load RpcLaw_g5 rfl (by first | (exact cellF (hB.next D12) (ca k (by omega))) | (exact cellF (hB.next D12) (cb k (by omega))))) rfl
             refine ⟨?_, ?_⟩
             · intro w13 D13
               rintro _ rfl _ rfl
               show OpOK _ _ _ _ _ _ _
               exact ok_pure (ro_neq rfl rfl) rfl
             exact trivial
            case hend =>
             intro w14 D14
             rintro _ rfl _ rfl _ rfl _ rfl _ rfl _ rfl _ rfl _ rfl _ rfl
             show St _ _ _ _ _ _ _
             refine st_nil ?_
             refine nx_then ?_
             refine cd_cond rfl (fun Q15 => ?_) (fun Q15 => ?_)
             · (try first | replace Q15 := bn_t Q15 | replace Q15 := bn_f Q15)
               (try first | replace Q15 := bx_t Q15 | replace Q15 := bx_f Q15 | replace Q15 := be_t Q15 | replace Q15 := be_f Q15 | replace Q15 := of_decide_eq_true Q15 | replace Q15 := of_decide_eq_false Q15)
               first
                | (exfalso; first | omega | contradiction | (cases Q15; done))
                | skip
                  refine cd_seq ?_
                  refine cd_region ?_
                  refine st_val (ro_assign (v := .bool _) rfl) ?_
                  refine st_nil ?_
                  refine nx_then ?_
                  refine cd_ret ?_
                  refine rt_block ?_
                  refine rt_then ?_
                  refine rt_then ?_
                  refine rt_block ?_
                  refine rt_then ?_
                  refine res1 (v := .bool _) rfl rfl ?_
                  exact ⟨by rw [decide_eq_false]; rintro rfl; exact absurd rfl (by assumption), (hB.next D14)⟩
             · (try first | replace Q15 := bn_t Q15 | replace Q15 := bn_f Q15)
               (try first | replace Q15 := bx_t Q15 | replace Q15 := bx_f Q15 | replace Q15 := be_t Q15 | replace Q15 := be_f Q15 | replace Q15 := of_decide_eq_true Q15 | replace Q15 := of_decide_eq_false Q15)
               first
                | (exfalso; first | omega | contradiction | (cases Q15; done))
                | skip
                  refine cd_skip ?_
                  refine nx_block ?_
                  refine nx_then ?_
                  refine cd_region ?_
                  refine st_val (ro_move (v := .int _ _) rfl) ?_
                  refine st_val (ro_add64 rfl rfl (by omega)) ?_
                  refine st_val (ro_assign (v := .int _ _) rfl) ?_
                  refine st_nil ?_
                  refine nx_cut (k + 1) ⟨(by first | rfl | (refine int_eq ?_; omega)), trivial⟩ (by (iterate 33 refine agr_cons rfl ?_); exact agr_rfl) ⟨?_, ?_⟩
                  · exact ⟨by omega, take_eq (by omega) (by omega) ht (by omega), (hB.next D14)⟩
                  · omega
       · (try first | replace Q3 := bn_t Q3 | replace Q3 := bn_f Q3)
         (try first | replace Q3 := bx_t Q3 | replace Q3 := bx_f Q3 | replace Q3 := be_t Q3 | replace Q3 := be_f Q3 | replace Q3 := of_decide_eq_true Q3 | replace Q3 := of_decide_eq_false Q3)
         first
          | (exfalso; first | omega | contradiction | (cases Q3; done))
          | skip
            refine cd_exit ?_
            refine ex_then ?_
            refine ex_then ?_
            refine ex_block ?_
            refine nx_then ?_
            refine cd_seq ?_
            refine cd_region ?_
            refine st_val (ro_assign (v := .bool _) rfl) ?_
            refine st_nil ?_
            refine nx_then ?_
            refine cd_ret ?_
            refine res1 (v := .bool _) rfl rfl ?_
            exact ⟨by rw [decide_eq_true (eq_ge (by omega) (by omega) ht)], hB⟩
theorem table_of {W : World} (h : laidMetH Tryd.prog Rows.rpcAnyRow.laid W) : Table W := by
  have gTab : Tryd.prog.globalNamed "lectern/sum.remainders" = some 0 := by kernel_rfl
  have gType : (Tryd.prog.globals[0]?).map (·.type) = some 88 := by kernel_rfl
  have c1 : Tryd.prog.cellsOf 75 = 1 := by kernel_rfl
  have c16 : Tryd.prog.cellsOf 88 = 16 := by kernel_rfl
  have ht : Lib.TabIs Tryd.prog W "lectern/sum.remainders" .u32 [0, 498536548, 997073096, 651767980, 1994146192, 1802195444, 1303535960, 1342533948, 3988292384, 4027552580, 3604390888, 3412177804, 2607071920, 2262029012, 2685067896, 3183342108] :=
    Lib.tabIs_of_head (rest := []) gTab gType Tryd.underlying88 Tryd.underlying75 c1 c16 h
  intro i hi
  rw [ht.cell gTab i hi]
  have : i = 0 ∨ i = 1 ∨ i = 2 ∨ i = 3 ∨ i = 4 ∨ i = 5 ∨ i = 6 ∨ i = 7 ∨ i = 8 ∨ i = 9 ∨ i = 10 ∨ i = 11 ∨ i = 12 ∨ i = 13 ∨ i = 14 ∨ i = 15 := by omega
  rcases this with rfl | rfl | rfl | rfl | rfl | rfl | rfl | rfl | rfl | rfl | rfl | rfl | rfl | rfl | rfl | rfl <;> rfl
theorem walk_laid_sl {H : Type} {enc : TypeId × Value → H} {F : FuncId} {T : TypeId} (t : Ty) (hf : (Ty.sl t).fits Tryd.prog (.inl T) = true) (laid : List (String × DataW Unit)) (hl : ∀ W, laidMetH Tryd.prog laid W → Table W)
    (h : ∀ (A : Option Addr) (c : Nat) (xs : List t.den) (w : World), xs.length * t.bytes ≤ 140737488351232 → (0 < xs.length → ∃ b o, A = some ⟨b, o, none⟩ ∧ ∀ (i : Nat) (hi : i < xs.length), t.At w (fun j => w.cell? ⟨b, o + i * t.size + j, none⟩) xs[i]) → Table w →
      Rt Tryd.prog F [.slice A xs.length c] w fun v w' => v = .bool true ∧ From w w')
    (W : World) (base : Nat) (v : Value) (d : DataW H) (p : List MemPlace) (hL : laidMetH Tryd.prog laid W) (_ : W.ShapedOpen Tryd.prog) (hok : Value.okWide Tryd.prog W .any base T v) (ht : DataW.Trod enc Tryd.prog W 0 (fun _ => true) true T v d p) (hsz : ∀ n ∈ d.weights Tryd.prog T, n ≤ 140737488351232) :
    Calls Tryd.prog F #[v] W fun e W' => e = .returned (.bool true) ∧ From W W' := by
  obtain ⟨A, cap, xs, rfl, hb, _, he⟩ := arg_sl t hf hok ht hsz
  refine Rt.to (h A cap xs W hb (fun h0 => ?_) (hl W hL))
  obtain ⟨b, o, hA, _, hi⟩ := he h0
  exact ⟨b, o, hA, fun i h => hi i _ (List.getElem?_eq_getElem h)⟩
theorem eq_same (A B : Option Addr) (ca cb n : Nat) (l : List Nat) (w : World) (hn : n = l.length) (ha : RowOf bV w A l) (hb : RowOf bV w B l) (hl : l.length ≤ 140737488351232) : Rt Tryd.prog 7 [.slice A n ca, .slice B l.length cb] w fun v w' => v = .bool true ∧ From w w' := by
  subst hn
  refine (eqBytes_any A B ca cb l l w ha hb (by omega)).mono fun v w' h => ⟨?_, h.2⟩
  rw [h.1, decide_eq_true rfl]
theorem eqRpc_same (k f t tm ix lt cm rd : Int) (ok : Bool) (E : Option Addr) (n c : Nat) (a : Int) (d : ByteArray) (dn : Bool) (es : List Ent) (E2 : Option Addr) (n2 c2 : Nat) (w : World) (hn : n = es.length) (hn2 : n2 = es.length) (he : Ents w (.slice E n c) es) (he2 : Ents w (.slice E2 n2 c2) es) (hl : es.length ≤ 400000000000) :
    Rt Tryd.prog 9 [.agg #[.int .i64 k, .int .i64 f, .int .i64 t, .int .i64 tm, .int .i64 ix, .int .i64 lt, .int .i64 cm, .int .i64 rd, .bool ok, .slice E n c, .int .i64 a, .string d, .bool dn], .agg #[.int .i64 k, .int .i64 f, .int .i64 t, .int .i64 tm, .int .i64 ix, .int .i64 lt, .int .i64 cm, .int .i64 rd, .bool ok, .slice E2 n2 c2, .int .i64 a, .string d, .bool dn]] w fun v w' => v = .bool true ∧ From w w' :=
  (eqRpc_g k f t tm ix lt cm rd ok E n c a d dn k f t tm ix lt cm rd ok E2 n2 c2 a d dn w es es hn hn2 he he2 hl).mono fun v w' h => ⟨by rw [h.1, decide_eq_true ⟨rfl, rfl, rfl, rfl, rfl, rfl, rfl, rfl, rfl, rfl, rfl, rfl, rfl⟩], h.2⟩
theorem enc_l (l : List Nat) (ss : List ByteArray) (es : List Ent) (E : Option Addr) (n c : Nat) (w : World) (hn : n = es.length) (hl : ∀ b ∈ l, b < 256) (hg : goodD l ss es) (he : Ents w (.slice E n c) es) (hT : Table w) :
    Rt Tryd.prog 10 [.agg #[.int .i64 (nv (sAt ss 0) : Nat), .int .i64 (nv (sAt ss 1) : Nat), .int .i64 (nv (sAt ss 2) : Nat), .int .i64 (nv (sAt ss 3) : Nat), .int .i64 (nv (sAt ss 4) : Nat), .int .i64 (nv (sAt ss 5) : Nat), .int .i64 (nv (sAt ss 6) : Nat), .int .i64 (nv (sAt ss 7) : Nat), .bool (((nv (sAt ss 9) : Nat) : Int) == 1), .slice E n c, .int .i64 (nv (sAt ss 8) : Nat), .string (sAt ss 11), .bool (((nv (sAt ss 10) : Nat) : Int) == 1)]] w fun v w' => (∃ A c', v = .tuple #[.slice A l.length c', .int .i64 0] ∧ RowOf bV w' A l) ∧ From w w' := by
  obtain ⟨h1, h2, h3⟩ := encR_back hl hg
  have h4 := hg.1
  refine (encode_ok (nv (sAt ss 0) : Nat) (nv (sAt ss 1) : Nat) (nv (sAt ss 2) : Nat) (nv (sAt ss 3) : Nat) (nv (sAt ss 4) : Nat) (nv (sAt ss 5) : Nat) (nv (sAt ss 6) : Nat) (nv (sAt ss 7) : Nat) (((nv (sAt ss 9) : Nat) : Int) == 1) E n c (nv (sAt ss 8) : Nat) (sAt ss 11) (((nv (sAt ss 10) : Nat) : Int) == 1) w es hn he hg.2.2.2.2 (l.length - 4) h1 h2 hT).mono fun v w' ⟨⟨A', c', hv, ho⟩, hF⟩ => ?_
  rw [h3] at ho
  rw [show l.length - 4 + 4 = l.length by omega] at hv ho
  exact ⟨⟨A', c', hv, (RowOf.of_row (f := bV) (RowC.of_own ho).1).2⟩, hF⟩
theorem may_l (ss : List ByteArray) (es : List Ent) (E : Option Addr) (n c : Nat) (w : World) (hn : n = es.length) (hg : OkS ss es) (he : Ents w (.slice E n c) es) (hl : es.length ≤ 400000000000) :
    Rt Tryd.prog 11 [.agg #[.int .i64 (nv (sAt ss 0) : Nat), .int .i64 (nv (sAt ss 1) : Nat), .int .i64 (nv (sAt ss 2) : Nat), .int .i64 (nv (sAt ss 3) : Nat), .int .i64 (nv (sAt ss 4) : Nat), .int .i64 (nv (sAt ss 5) : Nat), .int .i64 (nv (sAt ss 6) : Nat), .int .i64 (nv (sAt ss 7) : Nat), .bool (((nv (sAt ss 9) : Nat) : Int) == 1), .slice E n c, .int .i64 (nv (sAt ss 8) : Nat), .string (sAt ss 11), .bool (((nv (sAt ss 10) : Nat) : Int) == 1)]] w fun v w' => v = .bool true ∧ From w w' :=
  (may_r (nv (sAt ss 0) : Nat) (nv (sAt ss 1) : Nat) (nv (sAt ss 2) : Nat) (nv (sAt ss 3) : Nat) (nv (sAt ss 4) : Nat) (nv (sAt ss 5) : Nat) (nv (sAt ss 6) : Nat) (nv (sAt ss 7) : Nat) (((nv (sAt ss 9) : Nat) : Int) == 1) E n c (nv (sAt ss 8) : Nat) (sAt ss 11) (((nv (sAt ss 10) : Nat) : Int) == 1) w es hn he hl).mono fun v w' h => ⟨by rw [h.1]; exact congrArg Value.bool (decide_eq_true hg), h.2⟩
theorem enc_m (k f t tm ix lt cm rd : Int) (ok : Bool) (E : Option Addr) (n c : Nat) (a : Int) (d : ByteArray) (dn : Bool) (es : List Ent) (L : Nat) (w : World) (hn : n = es.length) (hL : (encR (tsR k f t tm ix lt cm rd ok es a d dn)).length = L) (he : Ents w (.slice E n c) es) (ho : OkR k f t tm ix lt cm rd ok es a d dn) (hT : Table w) :
    Rt Tryd.prog 10 [.agg #[.int .i64 k, .int .i64 f, .int .i64 t, .int .i64 tm, .int .i64 ix, .int .i64 lt, .int .i64 cm, .int .i64 rd, .bool ok, .slice E n c, .int .i64 a, .string d, .bool dn]] w fun v w' => (∃ A c', v = .tuple #[.slice A L c', .int .i64 0] ∧ RowC w' (.slice A L c') (bytesV (encR (tsR k f t tm ix lt cm rd ok es a d dn)))) ∧ From w w' := by
  refine (encode_ok k f t tm ix lt cm rd ok E n c a d dn w es hn he ho _ rfl (fit_ok ho) hT).mono fun v w' ⟨⟨A', c', hv, hw⟩, hF⟩ => ?_
  have hl : (encR (tsR k f t tm ix lt cm rd ok es a d dn)).length = (putB (tsR k f t tm ix lt cm rd ok es a d dn)).length + 4 := by unfold encR; rw [List.length_append, ck_len]
  rw [← hl, hL] at hv hw
  exact ⟨⟨A', c', hv, RowC.of_own hw⟩, hF⟩
theorem dec_m (k f t tm ix lt cm rd : Int) (ok : Bool) (a : Int) (d : ByteArray) (dn : Bool) (es : List Ent) (A : Option Addr) (cA L : Nat) (w : World) (hL : (encR (tsR k f t tm ix lt cm rd ok es a d dn)).length = L) (ho : OkR k f t tm ix lt cm rd ok es a d dn) (hr : RowC w (.slice A L cA) (bytesV (encR (tsR k f t tm ix lt cm rd ok es a d dn)))) (hT : Table w) :
    Rt Tryd.prog 6 [.slice A L cA] w fun v w' => (∃ A' c', v = .tuple #[.agg #[.int .i64 k, .int .i64 f, .int .i64 t, .int .i64 tm, .int .i64 ix, .int .i64 lt, .int .i64 cm, .int .i64 rd, .bool ok, .slice A' es.length c', .int .i64 a, .string d, .bool dn], .int .i64 0] ∧ w'.ownsRow w.heap.size 41 3 (.slice A' es.length c') es.length (entV es)) ∧ From w w' := by
  obtain ⟨hg, hb⟩ := goodD_enc ho
  have hf := fit_ok ho
  have hl : (encR (tsR k f t tm ix lt cm rd ok es a d dn)).length = (putB (tsR k f t tm ix lt cm rd ok es a d dn)).length + 4 := by unfold encR; rw [List.length_append, ck_len]
  refine (decode_r A cA L (encR (tsR k f t tm ix lt cm rd ok es a d dn)) w hL.symm hr hb (by omega) hT).mono fun v w' ⟨h, hF⟩ => ⟨?_, hF⟩
  rcases h with ⟨ss, es2, hg2, A', c', hv, hw⟩ | ⟨hno, _⟩
  · obtain rfl : ss = tsR k f t tm ix lt cm rd ok es a d dn := by
      have := hg2.2.2.1.symm.trans hg.2.2.1
      exact Option.some.inj this
    obtain rfl := entsS_uniq hg2.2.2.2.1 hg.2.2.2.1
    obtain ⟨v, v0, v1, v2, v3, v4, v5, v6, v7, v8, v9, v10, v11⟩ := ts_vals ho
    rw [v0, v1, v2, v3, v4, v5, v6, v7, v8, v9, v10, v11] at hv
    exact ⟨A', c', hv, hw⟩
  · exact absurd hg (hno _ _)
theorem okW : OkR 2 1 2 3 0 0 0 0 true [] 0 ⟨#[]⟩ false := by
  refine ⟨by unfold NumR; omega, ?_, fun h => by omega, fun h => by omega⟩
  unfold ExR
  rw [if_neg (by omega), if_pos rfl]
  exact ⟨rfl, rfl, rfl, rfl, rfl, rfl, rfl, rfl⟩
set_option maxRecDepth 100000 in
set_option maxHeartbeats 400000 in
theorem wakes_any (w : World) (hT : Table w) :
    Rt Tryd.prog 12 [] w (fun v w' => v = .bool true ∧ From w w') := by
  obtain ⟨L, hL⟩ : ∃ L, (encR (tsR 2 1 2 3 0 0 0 0 true [] 0 ⟨#[]⟩ false)).length = L := ⟨_, rfl⟩
  refine enter (n := 30) Tryd.func12 rfl rfl rfl ?_
  refine cd_seq ?_
  refine cd_region ?_
  refine st_val (ro_assign (v := .bool _) rfl) ?_
  refine st_nil ?_
  refine nx_then ?_
  refine cd_seq ?_
  refine cd_region ?_
  refine st_val (ro_build (l := [(0, .const (.int .i64 2)), (1, .const (.int .i64 1)), (2, .const (.int .i64 2)), (3, .const (.int .i64 3)), (8, .const (.bool true))]) (RpcLaw_b27_0cinti642_1cinti641_2cinti642_3cinti643_8cbooltrue)) ?_
  refine st_alloc RpcLaw_o27 ?_
  intro b1 w1 E1 hb1 hk1
  have hg1 : w.heap.size ≤ b1 := by rw [hb1]; exact (From.rfl_).size
  refine st_putW (vs := [_, _, _, _, _, _, _, _, _, _, _, _, _]) RpcLaw_z27 rfl rfl (by simp [Value.oneCell']) (hk1) rfl ?_
  intro w2 O1 P1
  refine st_nil ?_
  refine nx_then ?_
  refine cd_seq ?_
  refine cd_region ?_
  refine st_val (ro_loadA (cs := [_, _, _, _, _, _, _, _, _, _, _, _, _]) RpcLaw_g27 RpcLaw_z27 rfl (by exact P1.whole)) ?_
  refine st_call RpcLaw_k10 (enc_m 2 1 2 3 0 0 0 0 true none 0 0 0 ⟨#[]⟩ false [] L _ rfl hL (Ents.nil_ _) okW (hT.from_ ((From.rfl_.next E1).only O1 (hg1)))) ?_
  rintro v9 w3 ⟨⟨A9, c9, rfl, hr9⟩, E9⟩
  refine st_val (ro_move (v := .tuple _) rfl) ?_
  refine st_val (ro_extract rfl rfl) ?_
  refine st_val (ro_extract rfl rfl) ?_
  refine st_val (ro_assign (v := .slice _ _ _) rfl) ?_
  refine st_val (ro_assign (v := .int _ _) rfl) ?_
  refine st_nil ?_
  refine nx_then ?_
  refine cd_seq ?_
  refine cd_region ?_
  refine st_val (ro_move (v := .slice _ _ _) rfl) ?_
  refine st_call RpcLaw_k6 (dec_m 2 1 2 3 0 0 0 0 true 0 ⟨#[]⟩ false [] A9 c9 L _ hL okW hr9 (hT.from_ (((From.rfl_.next E1).only O1 (hg1)).next E9))) ?_
  rintro v14 w4 ⟨⟨A14, c14, rfl, ho14⟩, E14⟩
  refine st_val (ro_move (v := .tuple _) rfl) ?_
  refine st_val (ro_extract rfl rfl) ?_
  refine st_val (ro_extract rfl rfl) ?_
  have hlt1 := (P1.from_ ((From.rfl_.next E9).next E14)).lt
  refine st_alloc RpcLaw_o27 ?_
  intro b4 w5 E4 hb4 hk4
  have hg4 : w.heap.size ≤ b4 := by rw [hb4]; exact (((((From.rfl_.next E1).only O1 (hg1)).next E9).next E14)).size
  replace P1 := (P1.from_ (((From.rfl_.next E9).next E14).next E4))
  have h14 : b1 ≠ b4 := by have := P1.lt; have := hlt1; omega
  refine st_putW (vs := [_, _, _, _, _, _, _, _, _, _, _, _, _]) RpcLaw_z27 rfl rfl (by simp [Value.oneCell']) (hk4) rfl ?_
  intro w6 O3 P3
  replace P1 := P1.only O3 h14
  refine st_val (ro_assign (v := .int _ _) rfl) ?_
  refine st_nil ?_
  refine nx_then ?_
  refine cd_seq ?_
  refine cd_region ?_
  refine st_val (ro_move (v := .int _ _) rfl) ?_
  refine st_call RpcLaw_k8 (lnum_any _ _) ?_
  rintro v18 w7 ⟨rfl, rfl⟩
  refine st_val (ro_eql rfl rfl) ?_
  refine st_val (ro_move (v := .bool _) rfl) ?_
  refine st_split (t := 20) rfl (fun Q8 => ?_) (fun Q8 => ?_)
  · (try first | replace Q8 := bn_t Q8 | replace Q8 := bn_f Q8)
    (try first | replace Q8 := bx_t Q8 | replace Q8 := bx_f Q8 | replace Q8 := be_t Q8 | replace Q8 := be_f Q8 | replace Q8 := of_decide_eq_true Q8 | replace Q8 := of_decide_eq_false Q8)
    first
     | (exfalso; first | omega | contradiction | (cases Q8; done))
     | skip
       refine st_unguard rfl ?_
       refine st_val (ro_move (v := .int _ _) rfl) ?_
       refine st_unguard rfl ?_
       refine st_call RpcLaw_k8 (lnum_any _ _) ?_
       rintro v22 w9 ⟨rfl, rfl⟩
       refine st_unguard rfl ?_
       refine st_val (ro_eql rfl rfl) ?_
       refine st_val (ro_pickT (v := .bool _) rfl rfl) ?_
       refine st_val (ro_move (v := .bool _) rfl) ?_
       refine st_split (t := 25) rfl (fun Q10 => ?_) (fun Q10 => ?_)
       · (try first | replace Q10 := bn_t Q10 | replace Q10 := bn_f Q10)
         (try first | replace Q10 := bx_t Q10 | replace Q10 := bx_f Q10 | replace Q10 := be_t Q10 | replace Q10 := be_f Q10 | replace Q10 := of_decide_eq_true Q10 | replace Q10 := of_decide_eq_false Q10)
         first
          | (exfalso; first | omega | contradiction | (cases Q10; done))
          | skip
            refine st_unguard rfl ?_
            refine st_val (ro_loadA (cs := [_, _, _, _, _, _, _, _, _, _, _, _, _]) RpcLaw_g27 RpcLaw_z27 rfl (by exact P3.whole)) ?_
            refine st_unguard rfl ?_
            refine st_val (ro_loadA (cs := [_, _, _, _, _, _, _, _, _, _, _, _, _]) RpcLaw_g27 RpcLaw_z27 rfl (by exact P1.whole)) ?_
            refine st_unguard rfl ?_
            refine st_call RpcLaw_k9 (eqRpc_same 2 1 2 3 0 0 0 0 true A14 0 c14 0 ⟨#[]⟩ false [] none 0 0 _ rfl rfl (Ents.of_own (own_only3 (ho14.kept_from E4) O3 (own_off (ho14.kept_from E4) hk4 (by decide))) rfl) (Ents.nil_ _) (by simp)) ?_
            rintro v28 w11 ⟨rfl, E28⟩
            refine st_val (ro_pickT (v := .bool _) rfl rfl) ?_
            refine st_val (ro_assign (v := .bool _) rfl) ?_
            refine st_nil ?_
            refine nx_then ?_
            refine cd_ret ?_
            refine res1 (v := .bool _) rfl rfl ?_
            exact ⟨rfl, (((((((From.rfl_.next E1).only O1 (hg1)).next E9).next E14).next E4).only O3 (hg4)).next E28)⟩
       · (try first | replace Q10 := bn_t Q10 | replace Q10 := bn_f Q10)
         (try first | replace Q10 := bx_t Q10 | replace Q10 := bx_f Q10 | replace Q10 := be_t Q10 | replace Q10 := be_f Q10 | replace Q10 := of_decide_eq_true Q10 | replace Q10 := of_decide_eq_false Q10)
         first
          | (exfalso; first | omega | contradiction | (cases Q10; done))
          | skip
            refine st_gno rfl rfl ?_
            refine st_gno rfl rfl ?_
            refine st_gno rfl rfl ?_
            refine st_val (ro_pickF (v := .bool _) rfl rfl) ?_
            refine st_val (ro_assign (v := .bool _) rfl) ?_
            refine st_nil ?_
            refine nx_then ?_
            refine cd_ret ?_
            refine res1 (v := .bool _) rfl rfl ?_
            exact ⟨rfl, ((((((From.rfl_.next E1).only O1 (hg1)).next E9).next E14).next E4).only O3 (hg4))⟩
  · (try first | replace Q8 := bn_t Q8 | replace Q8 := bn_f Q8)
    (try first | replace Q8 := bx_t Q8 | replace Q8 := bx_f Q8 | replace Q8 := be_t Q8 | replace Q8 := be_f Q8 | replace Q8 := of_decide_eq_true Q8 | replace Q8 := of_decide_eq_false Q8)
    first
     | (exfalso; first | omega | contradiction | (cases Q8; done))
     | skip
       refine st_gno rfl rfl ?_
       refine st_gno rfl rfl ?_
       refine st_gno rfl rfl ?_
       refine st_val (ro_pickF (v := .bool _) rfl rfl) ?_
       refine st_val (ro_move (v := .bool _) rfl) ?_
       refine st_gno rfl rfl ?_
       refine st_gno rfl rfl ?_
       refine st_gno rfl rfl ?_
       refine st_val (ro_pickF (v := .bool _) rfl rfl) ?_
       refine st_val (ro_assign (v := .bool _) rfl) ?_
       refine st_nil ?_
       refine nx_then ?_
       refine cd_ret ?_
       refine res1 (v := .bool _) rfl rfl ?_
       exact ⟨rfl, ((((((From.rfl_.next E1).only O1 (hg1)).next E9).next E14).next E4).only O3 (hg4))⟩
end Go.Proofs.YtjliefglelcooaaDoor

namespace Go.Proofs.YtjliefglelcooaaDoor
open Go.RowKit
open Go.ChangeShapes Go.WideShapes Go.ChangeAt
theorem RpcAny_l22 : (elemQ Tryd.prog 22).isSome = true := by kernel_rfl
theorem RpcAny_e22 : elemQ Tryd.prog 22 = some (23, 1) := by kernel_rfl
theorem RpcAny_g23 : aggQ Tryd.prog 23 = some false := by kernel_rfl
theorem RpcAny_l23 : (elemQ Tryd.prog 23).isSome = true := by kernel_rfl
theorem RpcAny_k5 : callable Tryd.prog 5 = true := by kernel_rfl
theorem RpcAny_k6 : callable Tryd.prog 6 = true := by kernel_rfl
theorem RpcAny_o27 : zeroQ Tryd.prog 27 = some (.agg #[.int .i64 0, .int .i64 0, .int .i64 0, .int .i64 0, .int .i64 0, .int .i64 0, .int .i64 0, .int .i64 0, .bool false, .slice none 0 0, .int .i64 0, .string ⟨#[]⟩, .bool false]) := by kernel_rfl
theorem RpcAny_z27 : sizeQ Tryd.prog 27 = some 13 := by kernel_rfl
theorem RpcAny_k7 : callable Tryd.prog 7 = true := by kernel_rfl
theorem RpcAny_k8 : callable Tryd.prog 8 = true := by kernel_rfl
theorem RpcAny_g27 : aggQ Tryd.prog 27 = some true := by kernel_rfl
theorem RpcAny_b27_ : Tryd.prog.built 27 [] = some #[.int .i64 0, .int .i64 0, .int .i64 0, .int .i64 0, .int .i64 0, .int .i64 0, .int .i64 0, .int .i64 0, .bool false, .slice none 0 0, .int .i64 0, .string ⟨#[]⟩, .bool false] := by kernel_rfl
theorem RpcAny_k9 : callable Tryd.prog 9 = true := by kernel_rfl
theorem RpcAny_k10 : callable Tryd.prog 10 = true := by kernel_rfl
theorem RpcAny_k11 : callable Tryd.prog 11 = true := by kernel_rfl
theorem RpcAny_k12 : callable Tryd.prog 12 = true := by kernel_rfl
set_option maxRecDepth 100000 in
set_option maxHeartbeats 2000000 in
theorem any_law (A : Option Addr) (c : Nat) (xs : List (Ty.sl (.int .u8)).den) (w : World) (hlen : xs.length * (Ty.sl (.int .u8)).bytes ≤ 140737488351232) (hx : 0 < xs.length → ∃ b o, A = some ⟨b, o, none⟩ ∧ ∀ (i : Nat) (hi : i < xs.length), (Ty.sl (.int .u8)).At w (fun j => w.cell? ⟨b, o + i * (Ty.sl (.int .u8)).size + j, none⟩) xs[i]) (hT : Table w) :
    Rt Tryd.prog 3 [.slice A xs.length c] w (fun v w' => v = .bool true ∧ From w w') := by
  refine enter (n := 84) Tryd.func3 rfl rfl rfl ?_
  refine cd_seq ?_
  refine cd_region ?_
  refine st_val (ro_assign (v := .bool _) rfl) ?_
  refine st_nil ?_
  refine nx_then ?_
  refine cd_seq ?_
  refine cd_seq ?_
  refine cd_region ?_
  refine st_val (ro_assign (v := .int _ _) rfl) ?_
  refine st_nil ?_
  refine nx_then ?_
  refine cd_block ?_
  refine cd_loop (G := Nat) [2, 4, 5, 6, 7, 8, 9, 10, 11, 12, 13, 14, 15, 16, 17, 18, 19, 20, 21, 22, 23, 24, 25, 26, 27, 28, 29, 30, 31, 32, 33, 34, 35, 36, 37, 38, 39, 40, 41, 42, 43, 44, 45, 46, 47, 48, 49, 50, 51, 52, 53, 54, 55, 56, 57, 58, 59, 60, 61, 62, 63, 64, 65, 66, 67, 68, 69, 70, 71, 72, 73, 74, 75, 76, 77, 78, 79, 80, 81, 82] (fun i => [(3, .int .i64 (i : Nat))]) (fun i w' => i ≤ 20 ∧ From w w') (fun i => 20 - i) (0) ⟨rfl, trivial⟩ ?_ ?_
  · exact ⟨Nat.zero_le _, From.rfl_⟩
  rintro i ρ1 w1 ⟨hi, hB⟩
  refine cd_seq ?_
  refine cd_seq ?_
  refine cd_region ?_
  refine st_val (ro_move (v := .int _ _) rfl) ?_
  refine st_val (ro_move (v := .slice _ _ _) rfl) ?_
  refine st_val (ro_len RpcAny_l22 rfl) ?_
  refine st_val (ro_lss rfl rfl) ?_
  refine st_val (ro_move (v := .bool _) rfl) ?_
  refine st_split (t := 13) rfl (fun Q2 => ?_) (fun Q2 => ?_)
  · (try first | replace Q2 := bn_t Q2 | replace Q2 := bn_f Q2)
    (try first | replace Q2 := bx_t Q2 | replace Q2 := bx_f Q2 | replace Q2 := be_t Q2 | replace Q2 := be_f Q2 | replace Q2 := of_decide_eq_true Q2 | replace Q2 := of_decide_eq_false Q2)
    first
     | (exfalso; first | omega | contradiction | (cases Q2; done))
     | skip
       refine st_unguard rfl ?_
       refine st_val (ro_move (v := .int _ _) rfl) ?_
       refine st_unguard rfl ?_
       refine st_val (ro_lss rfl rfl) ?_
       refine st_val (ro_pickT (v := .bool _) rfl rfl) ?_
       refine st_nil ?_
       refine nx_then ?_
       refine cd_cond rfl (fun Q3 => ?_) (fun Q3 => ?_)
       · (try first | replace Q3 := bn_t Q3 | replace Q3 := bn_f Q3)
         (try first | replace Q3 := bx_t Q3 | replace Q3 := bx_f Q3 | replace Q3 := be_t Q3 | replace Q3 := be_f Q3 | replace Q3 := of_decide_eq_true Q3 | replace Q3 := of_decide_eq_false Q3)
         have hil : i < xs.length := by omega
         obtain ⟨b, o, hA, hat⟩ := hx (by omega)
         subst hA
         obtain ⟨Ai, ci, li, hci, hri, hbi, hli, hcap⟩ := at_bytes' (hat i hil)
         have hcell : w.cell? ⟨b, o + i, none⟩ = some (.slice Ai li.length ci) := by simpa [Ty.size] using hci
         first
          | (exfalso; first | omega | contradiction | (cases Q3; done))
          | skip
            refine cd_skip ?_
            refine nx_then ?_
            refine cd_seq ?_
            refine cd_block ?_
            refine cd_seq ?_
            refine cd_seq ?_
            refine cd_region ?_
            refine st_val (ro_move (v := .slice _ _ _) rfl) ?_
            refine st_val (ro_move (v := .int _ _) rfl) ?_
            refine st_val (ro_indexAddr1 RpcAny_e22 rfl rfl (by omega)) ?_
            refine st_val (ro_load RpcAny_g23 rfl (by exact cellF hB hcell)) ?_
            refine st_val (ro_len RpcAny_l23 rfl) ?_
            refine st_val (ro_gtr rfl rfl) ?_
            refine st_nil ?_
            refine nx_then ?_
            refine cd_cond rfl (fun Q4 => ?_) (fun Q4 => ?_)
            · (try first | replace Q4 := bn_t Q4 | replace Q4 := bn_f Q4)
              (try first | replace Q4 := bx_t Q4 | replace Q4 := bx_f Q4 | replace Q4 := be_t Q4 | replace Q4 := be_f Q4 | replace Q4 := of_decide_eq_true Q4 | replace Q4 := of_decide_eq_false Q4)
              first
               | (exfalso; first | omega | contradiction | (cases Q4; done))
               | skip
                 refine cd_seq ?_
                 refine cd_region ?_
                 refine st_val (ro_assign (v := .bool _) rfl) ?_
                 refine st_nil ?_
                 refine nx_then ?_
                 refine cd_ret ?_
                 refine rt_then ?_
                 refine rt_block ?_
                 refine rt_then ?_
                 refine rt_then ?_
                 refine rt_block ?_
                 refine rt_then ?_
                 refine res1 (v := .bool _) rfl rfl ?_
                 exact ⟨rfl, hB⟩
            · (try first | replace Q4 := bn_t Q4 | replace Q4 := bn_f Q4)
              (try first | replace Q4 := bx_t Q4 | replace Q4 := bx_f Q4 | replace Q4 := be_t Q4 | replace Q4 := be_f Q4 | replace Q4 := of_decide_eq_true Q4 | replace Q4 := of_decide_eq_false Q4)
              first
               | (exfalso; first | omega | contradiction | (cases Q4; done))
               | skip
                 refine cd_skip ?_
                 refine nx_then ?_
                 refine cd_seq ?_
                 refine cd_region ?_
                 refine st_val (ro_move (v := .slice _ _ _) rfl) ?_
                 refine st_val (ro_move (v := .int _ _) rfl) ?_
                 refine st_val (ro_indexAddr1 RpcAny_e22 rfl rfl (by omega)) ?_
                 refine st_val (ro_load RpcAny_g23 rfl (by exact cellF hB hcell)) ?_
                 refine st_call RpcAny_k5 (copyBytes_any Ai ci li _ (hri.from_ hB) (by omega)) ?_
                 rintro v29 w5 ⟨A29, c29, rfl, ho29, E29⟩
                 refine st_val (ro_assign (v := .slice _ _ _) rfl) ?_
                 refine st_nil ?_
                 refine nx_then ?_
                 refine cd_seq ?_
                 refine cd_region ?_
                 refine st_val (ro_move (v := .slice _ _ _) rfl) ?_
                 refine st_call RpcAny_k6 (decode_r A29 c29 _ li _ rfl (RowC.of_own ho29) hbi (by omega) (hT.from_ (hB.next E29))) ?_
                 rintro v32 w6 ⟨hp32, E32⟩
                 rcases hp32 with ⟨ss, es, hg, A32, c32, rfl, ho32⟩ | ⟨hno, rfl⟩
                 · have hes := (okR_ents hg.2.2.2.2).1
                   refine st_val (ro_move (v := .tuple _) rfl) ?_
                   refine st_val (ro_extract rfl rfl) ?_
                   refine st_val (ro_extract rfl rfl) ?_
                   refine st_alloc RpcAny_o27 ?_
                   intro b5 w7 E5 hb5 hk5
                   have hg5 : w.heap.size ≤ b5 := by rw [hb5]; exact (((hB.next E29).next E32)).size
                   refine st_putW (vs := [_, _, _, _, _, _, _, _, _, _, _, _, _]) RpcAny_z27 rfl rfl (by simp [Value.oneCell']) (hk5) rfl ?_
                   intro w8 O7 P7
                   replace ho29 := own_only3 (ho29.kept_from (E32.next E5)) O7 (own_off (ho29.kept_from (E32.next E5)) hk5 (by decide))
                   try replace ho32 := own_only3 (ho32.kept_from E5) O7 (own_off (ho32.kept_from E5) hk5 (by decide))
                   refine st_val (ro_assign (v := .int _ _) rfl) ?_
                   refine st_nil ?_
                   refine nx_then ?_
                   refine cd_seq ?_
                   refine cd_seq ?_
                   refine cd_region ?_
                   refine st_val (ro_move (v := .slice _ _ _) rfl) ?_
                   refine st_val (ro_move (v := .slice _ _ _) rfl) ?_
                   refine st_val (ro_move (v := .int _ _) rfl) ?_
                   refine st_val (ro_indexAddr1 RpcAny_e22 rfl rfl (by omega)) ?_
                   refine st_val (ro_load RpcAny_g23 rfl (by exact cellF ((((hB.next E29).next E32).next E5).only O7 (hg5)) hcell)) ?_
                   refine st_call RpcAny_k7 (eq_same A29 Ai c29 ci _ li _ rfl (RowOf.of_row (f := bV) (RowC.of_own ho29).1).2 (hri.from_ ((((hB.next E29).next E32).next E5).only O7 (hg5))) hli) ?_
                   rintro v40 w9 ⟨rfl, E40⟩
                   refine st_val (ro_not rfl) ?_
                   refine st_val (ro_move (v := .bool _) rfl) ?_
                   refine st_split (t := 42) rfl (fun Q10 => ?_) (fun Q10 => ?_)
                   · (try first | replace Q10 := bn_t Q10 | replace Q10 := bn_f Q10)
                     (try first | replace Q10 := bx_t Q10 | replace Q10 := bx_f Q10 | replace Q10 := be_t Q10 | replace Q10 := be_f Q10 | replace Q10 := of_decide_eq_true Q10 | replace Q10 := of_decide_eq_false Q10)
                     first
                      | (exfalso; first | omega | contradiction | (cases Q10; done))
                      | skip
                        refine st_gno rfl rfl ?_
                        refine st_gno rfl rfl ?_
                        refine st_gno rfl rfl ?_
                        refine st_gno rfl rfl ?_
                        refine st_gund rfl ?_
                        refine st_gund rfl ?_
                        refine st_gund rfl ?_
                        refine st_gund rfl ?_
                        refine st_gund rfl ?_
                        refine st_gund rfl ?_
                        refine st_gund rfl ?_
                        refine st_gund rfl ?_
                        refine st_gund rfl ?_
                        refine st_gno rfl rfl ?_
                        refine st_val (ro_pickT (v := .bool _) rfl rfl) ?_
                        refine st_nil ?_
                        refine nx_then ?_
                        refine cd_condT rfl ?_
                        refine cd_seq ?_
                        refine cd_region ?_
                        refine st_val (ro_assign (v := .bool _) rfl) ?_
                        refine st_nil ?_
                        refine nx_then ?_
                        refine cd_ret ?_
                        refine rt_then ?_
                        refine rt_block ?_
                        refine rt_then ?_
                        refine rt_then ?_
                        refine rt_block ?_
                        refine rt_then ?_
                        refine res1 (v := .bool _) rfl rfl ?_
                        exact ⟨rfl, (((((hB.next E29).next E32).next E5).only O7 (hg5)).next E40)⟩
                   · (try first | replace Q10 := bn_t Q10 | replace Q10 := bn_f Q10)
                     (try first | replace Q10 := bx_t Q10 | replace Q10 := bx_f Q10 | replace Q10 := be_t Q10 | replace Q10 := be_f Q10 | replace Q10 := of_decide_eq_true Q10 | replace Q10 := of_decide_eq_false Q10)
                     first
                      | (exfalso; first | omega | contradiction | (cases Q10; done))
                      | skip
                        refine st_unguard rfl ?_
                        refine st_val (ro_move (v := .int _ _) rfl) ?_
                        refine st_unguard rfl ?_
                        refine st_call RpcAny_k8 (lnum_any _ _) ?_
                        rintro v44 w11 ⟨rfl, rfl⟩
                        refine st_unguard rfl ?_
                        refine st_val (ro_neq rfl rfl) ?_
                        refine st_unguard rfl ?_
                        refine st_val (ro_move (v := .bool _) rfl) ?_
                        refine st_split (t := 46) rfl (fun Q12 => ?_) (fun Q12 => ?_)
                        · (try first | replace Q12 := bn_t Q12 | replace Q12 := bn_f Q12)
                          (try first | replace Q12 := bx_t Q12 | replace Q12 := bx_f Q12 | replace Q12 := be_t Q12 | replace Q12 := be_f Q12 | replace Q12 := of_decide_eq_true Q12 | replace Q12 := of_decide_eq_false Q12)
                          first
                           | (exfalso; first | omega | contradiction | (cases Q12; done))
                           | skip
                             refine st_unguard rfl ?_
                             refine st_val (ro_move (v := .int _ _) rfl) ?_
                             refine st_unguard rfl ?_
                             refine st_call RpcAny_k8 (lnum_any _ _) ?_
                             rintro v48 w13 ⟨rfl, rfl⟩
                             refine st_unguard rfl ?_
                             refine st_val (ro_neq rfl rfl) ?_
                             refine st_unguard rfl ?_
                             refine st_val (ro_move (v := .bool _) rfl) ?_
                             refine st_split (t := 50) rfl (fun Q14 => ?_) (fun Q14 => ?_)
                             · (try first | replace Q14 := bn_t Q14 | replace Q14 := bn_f Q14)
                               (try first | replace Q14 := bx_t Q14 | replace Q14 := bx_f Q14 | replace Q14 := be_t Q14 | replace Q14 := be_f Q14 | replace Q14 := of_decide_eq_true Q14 | replace Q14 := of_decide_eq_false Q14)
                               first
                                | (exfalso; first | omega | contradiction | (cases Q14; done))
                                | skip
                                  refine st_gno rfl rfl ?_
                                  refine st_gno rfl rfl ?_
                                  refine st_gno rfl rfl ?_
                                  refine st_gno rfl rfl ?_
                                  refine st_unguard rfl ?_
                                  refine st_val (ro_pickT (v := .bool _) rfl rfl) ?_
                                  refine st_unguard rfl ?_
                                  refine st_val (ro_pickT (v := .bool _) rfl rfl) ?_
                                  refine st_val (ro_pickF (v := .bool _) rfl rfl) ?_
                                  refine st_nil ?_
                                  refine nx_then ?_
                                  refine cd_condT rfl ?_
                                  refine cd_seq ?_
                                  refine cd_region ?_
                                  refine st_val (ro_assign (v := .bool _) rfl) ?_
                                  refine st_nil ?_
                                  refine nx_then ?_
                                  refine cd_ret ?_
                                  refine rt_then ?_
                                  refine rt_block ?_
                                  refine rt_then ?_
                                  refine rt_then ?_
                                  refine rt_block ?_
                                  refine rt_then ?_
                                  refine res1 (v := .bool _) rfl rfl ?_
                                  exact ⟨rfl, (((((hB.next E29).next E32).next E5).only O7 (hg5)).next E40)⟩
                             · (try first | replace Q14 := bn_t Q14 | replace Q14 := bn_f Q14)
                               (try first | replace Q14 := bx_t Q14 | replace Q14 := bx_f Q14 | replace Q14 := be_t Q14 | replace Q14 := be_f Q14 | replace Q14 := of_decide_eq_true Q14 | replace Q14 := of_decide_eq_false Q14)
                               first
                                | (exfalso; first | omega | contradiction | (cases Q14; done))
                                | skip
                                  refine st_unguard rfl ?_
                                  refine st_val (ro_loadA (cs := [_, _, _, _, _, _, _, _, _, _, _, _, _]) RpcAny_g27 RpcAny_z27 rfl (by exact (P7.from_ (From.rfl_.next E40)).whole)) ?_
                                  refine st_unguard rfl ?_
                                  refine st_val (ro_build (l := []) (RpcAny_b27_)) ?_
                                  refine st_unguard rfl ?_
                                  refine st_call RpcAny_k9 (eqRpc_same 0 0 0 0 0 0 0 0 false none 0 0 0 ⟨#[]⟩ false [] none 0 0 _ rfl rfl (Ents.nil_ _) (Ents.nil_ _) (by simp)) ?_
                                  rintro v53 w15 ⟨rfl, E53⟩
                                  refine st_unguard rfl ?_
                                  refine st_val (ro_not rfl) ?_
                                  refine st_unguard rfl ?_
                                  refine st_val (ro_pickF (v := .bool _) rfl rfl) ?_
                                  refine st_unguard rfl ?_
                                  refine st_val (ro_pickT (v := .bool _) rfl rfl) ?_
                                  refine st_val (ro_pickF (v := .bool _) rfl rfl) ?_
                                  refine st_nil ?_
                                  refine nx_then ?_
                                  refine cd_cond rfl (fun Q16 => ?_) (fun Q16 => ?_)
                                  · (try first | replace Q16 := bn_t Q16 | replace Q16 := bn_f Q16)
                                    (try first | replace Q16 := bx_t Q16 | replace Q16 := bx_f Q16 | replace Q16 := be_t Q16 | replace Q16 := be_f Q16 | replace Q16 := of_decide_eq_true Q16 | replace Q16 := of_decide_eq_false Q16)
                                    first
                                     | (exfalso; first | omega | contradiction | (cases Q16; done))
                                     | skip
                                       refine cd_seq ?_
                                       refine cd_region ?_
                                       refine st_val (ro_assign (v := .bool _) rfl) ?_
                                       refine st_nil ?_
                                       refine nx_then ?_
                                       refine cd_ret ?_
                                       refine rt_then ?_
                                       refine rt_block ?_
                                       refine rt_then ?_
                                       refine rt_then ?_
                                       refine rt_block ?_
                                       refine rt_then ?_
                                       refine res1 (v := .bool _) rfl rfl ?_
                                       exact ⟨rfl, ((((((hB.next E29).next E32).next E5).only O7 (hg5)).next E40).next E53)⟩
                                  · (try first | replace Q16 := bn_t Q16 | replace Q16 := bn_f Q16)
                                    (try first | replace Q16 := bx_t Q16 | replace Q16 := bx_f Q16 | replace Q16 := be_t Q16 | replace Q16 := be_f Q16 | replace Q16 := of_decide_eq_true Q16 | replace Q16 := of_decide_eq_false Q16)
                                    first
                                     | (exfalso; first | omega | contradiction | (cases Q16; done))
                                     | skip
                                       refine cd_skip ?_
                                       refine nx_then ?_
                                       refine cd_seq ?_
                                       refine cd_region ?_
                                       refine st_val (ro_move (v := .int _ _) rfl) ?_
                                       refine st_call RpcAny_k8 (lnum_any _ _) ?_
                                       rintro v59 w17 ⟨rfl, rfl⟩
                                       refine st_val (ro_eql rfl rfl) ?_
                                       refine st_nil ?_
                                       refine nx_then ?_
                                       refine cd_cond rfl (fun Q18 => ?_) (fun Q18 => ?_)
                                       · (try first | replace Q18 := bn_t Q18 | replace Q18 := bn_f Q18)
                                         (try first | replace Q18 := bx_t Q18 | replace Q18 := bx_f Q18 | replace Q18 := be_t Q18 | replace Q18 := be_f Q18 | replace Q18 := of_decide_eq_true Q18 | replace Q18 := of_decide_eq_false Q18)
                                         first
                                          | (exfalso; first | omega | contradiction | (cases Q18; done))
                                          | skip
                                            refine cd_seq ?_
                                            refine cd_region ?_
                                            refine st_val (ro_loadA (cs := [_, _, _, _, _, _, _, _, _, _, _, _, _]) RpcAny_g27 RpcAny_z27 rfl (by exact (P7.from_ ((From.rfl_.next E40).next E53)).whole)) ?_
                                            refine st_call RpcAny_k10 (enc_l li ss es A32 _ c32 _ rfl hbi hg (Ents.of_own (ho32.kept_from ((From.rfl_.next E40).next E53)) rfl) (hT.from_ ((((((hB.next E29).next E32).next E5).only O7 (hg5)).next E40).next E53))) ?_
                                            rintro v63 w19 ⟨⟨A63, c63, rfl, hr63⟩, E63⟩
                                            refine st_val (ro_move (v := .tuple _) rfl) ?_
                                            refine st_val (ro_extract rfl rfl) ?_
                                            refine st_val (ro_extract rfl rfl) ?_
                                            refine st_val (ro_assign (v := .slice _ _ _) rfl) ?_
                                            refine st_val (ro_assign (v := .int _ _) rfl) ?_
                                            refine st_nil ?_
                                            refine nx_then ?_
                                            refine cd_seq ?_
                                            refine cd_region ?_
                                            refine st_val (ro_move (v := .int _ _) rfl) ?_
                                            refine st_call RpcAny_k8 (lnum_any _ _) ?_
                                            rintro v67 w20 ⟨rfl, rfl⟩
                                            refine st_val (ro_neq rfl rfl) ?_
                                            refine st_val (ro_move (v := .bool _) rfl) ?_
                                            refine st_split (t := 69) rfl (fun Q21 => ?_) (fun Q21 => ?_)
                                            · (try first | replace Q21 := bn_t Q21 | replace Q21 := bn_f Q21)
                                              (try first | replace Q21 := bx_t Q21 | replace Q21 := bx_f Q21 | replace Q21 := be_t Q21 | replace Q21 := be_f Q21 | replace Q21 := of_decide_eq_true Q21 | replace Q21 := of_decide_eq_false Q21)
                                              first
                                               | (exfalso; first | omega | contradiction | (cases Q21; done))
                                               | skip
                                                 refine st_gno rfl rfl ?_
                                                 refine st_gno rfl rfl ?_
                                                 refine st_gno rfl rfl ?_
                                                 refine st_gno rfl rfl ?_
                                                 refine st_gno rfl rfl ?_
                                                 refine st_gno rfl rfl ?_
                                                 refine st_gno rfl rfl ?_
                                                 refine st_val (ro_pickT (v := .bool _) rfl rfl) ?_
                                                 refine st_val (ro_move (v := .bool _) rfl) ?_
                                                 refine st_gno rfl rfl ?_
                                                 refine st_gno rfl rfl ?_
                                                 refine st_gno rfl rfl ?_
                                                 refine st_val (ro_pickT (v := .bool _) rfl rfl) ?_
                                                 refine st_nil ?_
                                                 refine nx_then ?_
                                                 refine cd_condT rfl ?_
                                                 refine cd_seq ?_
                                                 refine cd_region ?_
                                                 refine st_val (ro_assign (v := .bool _) rfl) ?_
                                                 refine st_nil ?_
                                                 refine nx_then ?_
                                                 refine cd_ret ?_
                                                 refine rt_block ?_
                                                 refine rt_then ?_
                                                 refine rt_then ?_
                                                 refine rt_block ?_
                                                 refine rt_then ?_
                                                 refine res1 (v := .bool _) rfl rfl ?_
                                                 exact ⟨rfl, (((((((hB.next E29).next E32).next E5).only O7 (hg5)).next E40).next E53).next E63)⟩
                                            · (try first | replace Q21 := bn_t Q21 | replace Q21 := bn_f Q21)
                                              (try first | replace Q21 := bx_t Q21 | replace Q21 := bx_f Q21 | replace Q21 := be_t Q21 | replace Q21 := be_f Q21 | replace Q21 := of_decide_eq_true Q21 | replace Q21 := of_decide_eq_false Q21)
                                              first
                                               | (exfalso; first | omega | contradiction | (cases Q21; done))
                                               | skip
                                                 refine st_unguard rfl ?_
                                                 refine st_val (ro_move (v := .slice _ _ _) rfl) ?_
                                                 refine st_unguard rfl ?_
                                                 refine st_val (ro_move (v := .slice _ _ _) rfl) ?_
                                                 refine st_unguard rfl ?_
                                                 refine st_val (ro_move (v := .int _ _) rfl) ?_
                                                 refine st_unguard rfl ?_
                                                 refine st_val (ro_indexAddr1 RpcAny_e22 rfl rfl (by omega)) ?_
                                                 refine st_unguard rfl ?_
                                                 refine st_val (ro_load RpcAny_g23 rfl (by exact cellF (((((((hB.next E29).next E32).next E5).only O7 (hg5)).next E40).next E53).next E63) hcell)) ?_
                                                 refine st_unguard rfl ?_
                                                 refine st_call RpcAny_k7 (eq_same A63 Ai c63 ci _ li _ rfl hr63 (hri.from_ (((((((hB.next E29).next E32).next E5).only O7 (hg5)).next E40).next E53).next E63)) hli) ?_
                                                 rintro v75 w22 ⟨rfl, E75⟩
                                                 refine st_unguard rfl ?_
                                                 refine st_val (ro_not rfl) ?_
                                                 refine st_val (ro_pickF (v := .bool _) rfl rfl) ?_
                                                 refine st_val (ro_move (v := .bool _) rfl) ?_
                                                 refine st_split (t := 78) rfl (fun Q23 => ?_) (fun Q23 => ?_)
                                                 · (try first | replace Q23 := bn_t Q23 | replace Q23 := bn_f Q23)
                                                   (try first | replace Q23 := bx_t Q23 | replace Q23 := bx_f Q23 | replace Q23 := be_t Q23 | replace Q23 := be_f Q23 | replace Q23 := of_decide_eq_true Q23 | replace Q23 := of_decide_eq_false Q23)
                                                   first
                                                    | (exfalso; first | omega | contradiction | (cases Q23; done))
                                                    | skip
                                                      refine st_gno rfl rfl ?_
                                                      refine st_gno rfl rfl ?_
                                                      refine st_gno rfl rfl ?_
                                                      refine st_val (ro_pickT (v := .bool _) rfl rfl) ?_
                                                      refine st_nil ?_
                                                      refine nx_then ?_
                                                      refine cd_condT rfl ?_
                                                      refine cd_seq ?_
                                                      refine cd_region ?_
                                                      refine st_val (ro_assign (v := .bool _) rfl) ?_
                                                      refine st_nil ?_
                                                      refine nx_then ?_
                                                      refine cd_ret ?_
                                                      refine rt_block ?_
                                                      refine rt_then ?_
                                                      refine rt_then ?_
                                                      refine rt_block ?_
                                                      refine rt_then ?_
                                                      refine res1 (v := .bool _) rfl rfl ?_
                                                      exact ⟨rfl, ((((((((hB.next E29).next E32).next E5).only O7 (hg5)).next E40).next E53).next E63).next E75)⟩
                                                 · (try first | replace Q23 := bn_t Q23 | replace Q23 := bn_f Q23)
                                                   (try first | replace Q23 := bx_t Q23 | replace Q23 := bx_f Q23 | replace Q23 := be_t Q23 | replace Q23 := be_f Q23 | replace Q23 := of_decide_eq_true Q23 | replace Q23 := of_decide_eq_false Q23)
                                                   first
                                                    | (exfalso; first | omega | contradiction | (cases Q23; done))
                                                    | skip
                                                      refine st_unguard rfl ?_
                                                      refine st_val (ro_loadA (cs := [_, _, _, _, _, _, _, _, _, _, _, _, _]) RpcAny_g27 RpcAny_z27 rfl (by exact (P7.from_ ((((From.rfl_.next E40).next E53).next E63).next E75)).whole)) ?_
                                                      refine st_unguard rfl ?_
                                                      refine st_call RpcAny_k11 (may_l ss es A32 _ c32 _ rfl hg.2.2.2.2 (Ents.of_own (ho32.kept_from ((((From.rfl_.next E40).next E53).next E63).next E75)) rfl) (by omega)) ?_
                                                      rintro v80 w24 ⟨rfl, E80⟩
                                                      refine st_unguard rfl ?_
                                                      refine st_val (ro_not rfl) ?_
                                                      refine st_val (ro_pickF (v := .bool _) rfl rfl) ?_
                                                      refine st_nil ?_
                                                      refine nx_then ?_
                                                      refine cd_cond rfl (fun Q25 => ?_) (fun Q25 => ?_)
                                                      · (try first | replace Q25 := bn_t Q25 | replace Q25 := bn_f Q25)
                                                        (try first | replace Q25 := bx_t Q25 | replace Q25 := bx_f Q25 | replace Q25 := be_t Q25 | replace Q25 := be_f Q25 | replace Q25 := of_decide_eq_true Q25 | replace Q25 := of_decide_eq_false Q25)
                                                        first
                                                         | (exfalso; first | omega | contradiction | (cases Q25; done))
                                                         | skip
                                                           refine cd_seq ?_
                                                           refine cd_region ?_
                                                           refine st_val (ro_assign (v := .bool _) rfl) ?_
                                                           refine st_nil ?_
                                                           refine nx_then ?_
                                                           refine cd_ret ?_
                                                           refine rt_block ?_
                                                           refine rt_then ?_
                                                           refine rt_then ?_
                                                           refine rt_block ?_
                                                           refine rt_then ?_
                                                           refine res1 (v := .bool _) rfl rfl ?_
                                                           exact ⟨rfl, (((((((((hB.next E29).next E32).next E5).only O7 (hg5)).next E40).next E53).next E63).next E75).next E80)⟩
                                                      · (try first | replace Q25 := bn_t Q25 | replace Q25 := bn_f Q25)
                                                        (try first | replace Q25 := bx_t Q25 | replace Q25 := bx_f Q25 | replace Q25 := be_t Q25 | replace Q25 := be_f Q25 | replace Q25 := of_decide_eq_true Q25 | replace Q25 := of_decide_eq_false Q25)
                                                        first
                                                         | (exfalso; first | omega | contradiction | (cases Q25; done))
                                                         | skip
                                                           refine cd_skip ?_
                                                           refine nx_block ?_
                                                           refine nx_then ?_
                                                           refine cd_region ?_
                                                           refine st_val (ro_move (v := .int _ _) rfl) ?_
                                                           refine st_val (ro_addN (b := 1) rfl rfl (by omega)) ?_
                                                           refine st_val (ro_assign (v := .int _ _) rfl) ?_
                                                           refine st_nil ?_
                                                           refine nx_cut (i + 1) ⟨(by first | rfl | (refine int_eq ?_; omega)), trivial⟩ (by (iterate 167 refine agr_cons rfl ?_); exact agr_rfl) ⟨?_, ?_⟩
                                                           · exact ⟨by omega, (((((((((hB.next E29).next E32).next E5).only O7 (hg5)).next E40).next E53).next E63).next E75).next E80)⟩
                                                           · omega
                                       · (try first | replace Q18 := bn_t Q18 | replace Q18 := bn_f Q18)
                                         (try first | replace Q18 := bx_t Q18 | replace Q18 := bx_f Q18 | replace Q18 := be_t Q18 | replace Q18 := be_f Q18 | replace Q18 := of_decide_eq_true Q18 | replace Q18 := of_decide_eq_false Q18)
                                         first
                                          | (exfalso; first | omega | contradiction | (cases Q18; done))
                                          | skip
                                            refine cd_skip ?_
                                            refine nx_block ?_
                                            refine nx_then ?_
                                            refine cd_region ?_
                                            refine st_val (ro_move (v := .int _ _) rfl) ?_
                                            refine st_val (ro_addN (b := 1) rfl rfl (by omega)) ?_
                                            refine st_val (ro_assign (v := .int _ _) rfl) ?_
                                            refine st_nil ?_
                                            refine nx_cut (i + 1) ⟨(by first | rfl | (refine int_eq ?_; omega)), trivial⟩ (by (iterate 141 refine agr_cons rfl ?_); exact agr_rfl) ⟨?_, ?_⟩
                                            · exact ⟨by omega, ((((((hB.next E29).next E32).next E5).only O7 (hg5)).next E40).next E53)⟩
                                            · omega
                        · (try first | replace Q12 := bn_t Q12 | replace Q12 := bn_f Q12)
                          (try first | replace Q12 := bx_t Q12 | replace Q12 := bx_f Q12 | replace Q12 := be_t Q12 | replace Q12 := be_f Q12 | replace Q12 := of_decide_eq_true Q12 | replace Q12 := of_decide_eq_false Q12)
                          first
                           | (exfalso; first | omega | contradiction | (cases Q12; done))
                           | skip
                             refine st_gno rfl rfl ?_
                             refine st_gno rfl rfl ?_
                             refine st_gno rfl rfl ?_
                             refine st_gno rfl rfl ?_
                             refine st_gund rfl ?_
                             refine st_gund rfl ?_
                             refine st_gund rfl ?_
                             refine st_gund rfl ?_
                             refine st_gno rfl rfl ?_
                             refine st_unguard rfl ?_
                             refine st_val (ro_pickF (v := .bool _) rfl rfl) ?_
                             refine st_val (ro_pickF (v := .bool _) rfl rfl) ?_
                             refine st_nil ?_
                             refine nx_then ?_
                             refine cd_condF rfl ?_
                             refine cd_skip ?_
                             refine nx_then ?_
                             refine cd_seq ?_
                             refine cd_region ?_
                             refine st_val (ro_move (v := .int _ _) rfl) ?_
                             refine st_call RpcAny_k8 (lnum_any _ _) ?_
                             rintro v59 w26 ⟨rfl, rfl⟩
                             refine st_val (ro_eql rfl rfl) ?_
                             refine st_nil ?_
                             refine nx_then ?_
                             refine cd_cond rfl (fun Q27 => ?_) (fun Q27 => ?_)
                             · (try first | replace Q27 := bn_t Q27 | replace Q27 := bn_f Q27)
                               (try first | replace Q27 := bx_t Q27 | replace Q27 := bx_f Q27 | replace Q27 := be_t Q27 | replace Q27 := be_f Q27 | replace Q27 := of_decide_eq_true Q27 | replace Q27 := of_decide_eq_false Q27)
                               first
                                | (exfalso; first | omega | contradiction | (cases Q27; done))
                                | skip
                                  refine cd_seq ?_
                                  refine cd_region ?_
                                  refine st_val (ro_loadA (cs := [_, _, _, _, _, _, _, _, _, _, _, _, _]) RpcAny_g27 RpcAny_z27 rfl (by exact (P7.from_ (From.rfl_.next E40)).whole)) ?_
                                  refine st_call RpcAny_k10 (enc_l li ss es A32 _ c32 _ rfl hbi hg (Ents.of_own (ho32.kept_from (From.rfl_.next E40)) rfl) (hT.from_ (((((hB.next E29).next E32).next E5).only O7 (hg5)).next E40))) ?_
                                  rintro v63 w28 ⟨⟨A63, c63, rfl, hr63⟩, E63⟩
                                  refine st_val (ro_move (v := .tuple _) rfl) ?_
                                  refine st_val (ro_extract rfl rfl) ?_
                                  refine st_val (ro_extract rfl rfl) ?_
                                  refine st_val (ro_assign (v := .slice _ _ _) rfl) ?_
                                  refine st_val (ro_assign (v := .int _ _) rfl) ?_
                                  refine st_nil ?_
                                  refine nx_then ?_
                                  refine cd_seq ?_
                                  refine cd_region ?_
                                  refine st_val (ro_move (v := .int _ _) rfl) ?_
                                  refine st_call RpcAny_k8 (lnum_any _ _) ?_
                                  rintro v67 w29 ⟨rfl, rfl⟩
                                  refine st_val (ro_neq rfl rfl) ?_
                                  refine st_val (ro_move (v := .bool _) rfl) ?_
                                  refine st_split (t := 69) rfl (fun Q30 => ?_) (fun Q30 => ?_)
                                  · (try first | replace Q30 := bn_t Q30 | replace Q30 := bn_f Q30)
                                    (try first | replace Q30 := bx_t Q30 | replace Q30 := bx_f Q30 | replace Q30 := be_t Q30 | replace Q30 := be_f Q30 | replace Q30 := of_decide_eq_true Q30 | replace Q30 := of_decide_eq_false Q30)
                                    first
                                     | (exfalso; first | omega | contradiction | (cases Q30; done))
                                     | skip
                                       refine st_gno rfl rfl ?_
                                       refine st_gno rfl rfl ?_
                                       refine st_gno rfl rfl ?_
                                       refine st_gno rfl rfl ?_
                                       refine st_gno rfl rfl ?_
                                       refine st_gno rfl rfl ?_
                                       refine st_gno rfl rfl ?_
                                       refine st_val (ro_pickT (v := .bool _) rfl rfl) ?_
                                       refine st_val (ro_move (v := .bool _) rfl) ?_
                                       refine st_gno rfl rfl ?_
                                       refine st_gno rfl rfl ?_
                                       refine st_gno rfl rfl ?_
                                       refine st_val (ro_pickT (v := .bool _) rfl rfl) ?_
                                       refine st_nil ?_
                                       refine nx_then ?_
                                       refine cd_condT rfl ?_
                                       refine cd_seq ?_
                                       refine cd_region ?_
                                       refine st_val (ro_assign (v := .bool _) rfl) ?_
                                       refine st_nil ?_
                                       refine nx_then ?_
                                       refine cd_ret ?_
                                       refine rt_block ?_
                                       refine rt_then ?_
                                       refine rt_then ?_
                                       refine rt_block ?_
                                       refine rt_then ?_
                                       refine res1 (v := .bool _) rfl rfl ?_
                                       exact ⟨rfl, ((((((hB.next E29).next E32).next E5).only O7 (hg5)).next E40).next E63)⟩
                                  · (try first | replace Q30 := bn_t Q30 | replace Q30 := bn_f Q30)
                                    (try first | replace Q30 := bx_t Q30 | replace Q30 := bx_f Q30 | replace Q30 := be_t Q30 | replace Q30 := be_f Q30 | replace Q30 := of_decide_eq_true Q30 | replace Q30 := of_decide_eq_false Q30)
                                    first
                                     | (exfalso; first | omega | contradiction | (cases Q30; done))
                                     | skip
                                       refine st_unguard rfl ?_
                                       refine st_val (ro_move (v := .slice _ _ _) rfl) ?_
                                       refine st_unguard rfl ?_
                                       refine st_val (ro_move (v := .slice _ _ _) rfl) ?_
                                       refine st_unguard rfl ?_
                                       refine st_val (ro_move (v := .int _ _) rfl) ?_
                                       refine st_unguard rfl ?_
                                       refine st_val (ro_indexAddr1 RpcAny_e22 rfl rfl (by omega)) ?_
                                       refine st_unguard rfl ?_
                                       refine st_val (ro_load RpcAny_g23 rfl (by exact cellF ((((((hB.next E29).next E32).next E5).only O7 (hg5)).next E40).next E63) hcell)) ?_
                                       refine st_unguard rfl ?_
                                       refine st_call RpcAny_k7 (eq_same A63 Ai c63 ci _ li _ rfl hr63 (hri.from_ ((((((hB.next E29).next E32).next E5).only O7 (hg5)).next E40).next E63)) hli) ?_
                                       rintro v75 w31 ⟨rfl, E75⟩
                                       refine st_unguard rfl ?_
                                       refine st_val (ro_not rfl) ?_
                                       refine st_val (ro_pickF (v := .bool _) rfl rfl) ?_
                                       refine st_val (ro_move (v := .bool _) rfl) ?_
                                       refine st_split (t := 78) rfl (fun Q32 => ?_) (fun Q32 => ?_)
                                       · (try first | replace Q32 := bn_t Q32 | replace Q32 := bn_f Q32)
                                         (try first | replace Q32 := bx_t Q32 | replace Q32 := bx_f Q32 | replace Q32 := be_t Q32 | replace Q32 := be_f Q32 | replace Q32 := of_decide_eq_true Q32 | replace Q32 := of_decide_eq_false Q32)
                                         first
                                          | (exfalso; first | omega | contradiction | (cases Q32; done))
                                          | skip
                                            refine st_gno rfl rfl ?_
                                            refine st_gno rfl rfl ?_
                                            refine st_gno rfl rfl ?_
                                            refine st_val (ro_pickT (v := .bool _) rfl rfl) ?_
                                            refine st_nil ?_
                                            refine nx_then ?_
                                            refine cd_condT rfl ?_
                                            refine cd_seq ?_
                                            refine cd_region ?_
                                            refine st_val (ro_assign (v := .bool _) rfl) ?_
                                            refine st_nil ?_
                                            refine nx_then ?_
                                            refine cd_ret ?_
                                            refine rt_block ?_
                                            refine rt_then ?_
                                            refine rt_then ?_
                                            refine rt_block ?_
                                            refine rt_then ?_
                                            refine res1 (v := .bool _) rfl rfl ?_
                                            exact ⟨rfl, (((((((hB.next E29).next E32).next E5).only O7 (hg5)).next E40).next E63).next E75)⟩
                                       · (try first | replace Q32 := bn_t Q32 | replace Q32 := bn_f Q32)
                                         (try first | replace Q32 := bx_t Q32 | replace Q32 := bx_f Q32 | replace Q32 := be_t Q32 | replace Q32 := be_f Q32 | replace Q32 := of_decide_eq_true Q32 | replace Q32 := of_decide_eq_false Q32)
                                         first
                                          | (exfalso; first | omega | contradiction | (cases Q32; done))
                                          | skip
                                            refine st_unguard rfl ?_
                                            refine st_val (ro_loadA (cs := [_, _, _, _, _, _, _, _, _, _, _, _, _]) RpcAny_g27 RpcAny_z27 rfl (by exact (P7.from_ (((From.rfl_.next E40).next E63).next E75)).whole)) ?_
                                            refine st_unguard rfl ?_
                                            refine st_call RpcAny_k11 (may_l ss es A32 _ c32 _ rfl hg.2.2.2.2 (Ents.of_own (ho32.kept_from (((From.rfl_.next E40).next E63).next E75)) rfl) (by omega)) ?_
                                            rintro v80 w33 ⟨rfl, E80⟩
                                            refine st_unguard rfl ?_
                                            refine st_val (ro_not rfl) ?_
                                            refine st_val (ro_pickF (v := .bool _) rfl rfl) ?_
                                            refine st_nil ?_
                                            refine nx_then ?_
                                            refine cd_cond rfl (fun Q34 => ?_) (fun Q34 => ?_)
                                            · (try first | replace Q34 := bn_t Q34 | replace Q34 := bn_f Q34)
                                              (try first | replace Q34 := bx_t Q34 | replace Q34 := bx_f Q34 | replace Q34 := be_t Q34 | replace Q34 := be_f Q34 | replace Q34 := of_decide_eq_true Q34 | replace Q34 := of_decide_eq_false Q34)
                                              first
                                               | (exfalso; first | omega | contradiction | (cases Q34; done))
                                               | skip
                                                 refine cd_seq ?_
                                                 refine cd_region ?_
                                                 refine st_val (ro_assign (v := .bool _) rfl) ?_
                                                 refine st_nil ?_
                                                 refine nx_then ?_
                                                 refine cd_ret ?_
                                                 refine rt_block ?_
                                                 refine rt_then ?_
                                                 refine rt_then ?_
                                                 refine rt_block ?_
                                                 refine rt_then ?_
                                                 refine res1 (v := .bool _) rfl rfl ?_
                                                 exact ⟨rfl, ((((((((hB.next E29).next E32).next E5).only O7 (hg5)).next E40).next E63).next E75).next E80)⟩
                                            · (try first | replace Q34 := bn_t Q34 | replace Q34 := bn_f Q34)
                                              (try first | replace Q34 := bx_t Q34 | replace Q34 := bx_f Q34 | replace Q34 := be_t Q34 | replace Q34 := be_f Q34 | replace Q34 := of_decide_eq_true Q34 | replace Q34 := of_decide_eq_false Q34)
                                              first
                                               | (exfalso; first | omega | contradiction | (cases Q34; done))
                                               | skip
                                                 refine cd_skip ?_
                                                 refine nx_block ?_
                                                 refine nx_then ?_
                                                 refine cd_region ?_
                                                 refine st_val (ro_move (v := .int _ _) rfl) ?_
                                                 refine st_val (ro_addN (b := 1) rfl rfl (by omega)) ?_
                                                 refine st_val (ro_assign (v := .int _ _) rfl) ?_
                                                 refine st_nil ?_
                                                 refine nx_cut (i + 1) ⟨(by first | rfl | (refine int_eq ?_; omega)), trivial⟩ (by (iterate 166 refine agr_cons rfl ?_); exact agr_rfl) ⟨?_, ?_⟩
                                                 · exact ⟨by omega, ((((((((hB.next E29).next E32).next E5).only O7 (hg5)).next E40).next E63).next E75).next E80)⟩
                                                 · omega
                             · (try first | replace Q27 := bn_t Q27 | replace Q27 := bn_f Q27)
                               (try first | replace Q27 := bx_t Q27 | replace Q27 := bx_f Q27 | replace Q27 := be_t Q27 | replace Q27 := be_f Q27 | replace Q27 := of_decide_eq_true Q27 | replace Q27 := of_decide_eq_false Q27)
                               first
                                | (exfalso; first | omega | contradiction | (cases Q27; done))
                                | skip
                                  refine cd_skip ?_
                                  refine nx_block ?_
                                  refine nx_then ?_
                                  refine cd_region ?_
                                  refine st_val (ro_move (v := .int _ _) rfl) ?_
                                  refine st_val (ro_addN (b := 1) rfl rfl (by omega)) ?_
                                  refine st_val (ro_assign (v := .int _ _) rfl) ?_
                                  refine st_nil ?_
                                  refine nx_cut (i + 1) ⟨(by first | rfl | (refine int_eq ?_; omega)), trivial⟩ (by (iterate 140 refine agr_cons rfl ?_); exact agr_rfl) ⟨?_, ?_⟩
                                  · exact ⟨by omega, (((((hB.next E29).next E32).next E5).only O7 (hg5)).next E40)⟩
                                  · omega
                 · refine st_val (ro_move (v := .tuple _) rfl) ?_
                   refine st_val (ro_extract rfl rfl) ?_
                   refine st_val (ro_extract rfl rfl) ?_
                   refine st_alloc RpcAny_o27 ?_
                   intro b5 w35 E5 hb5 hk5
                   have hg5 : w.heap.size ≤ b5 := by rw [hb5]; exact (((hB.next E29).next E32)).size
                   refine st_putW (vs := [_, _, _, _, _, _, _, _, _, _, _, _, _]) RpcAny_z27 rfl rfl (by simp [Value.oneCell']) (hk5) rfl ?_
                   intro w36 O7 P7
                   replace ho29 := own_only3 (ho29.kept_from (E32.next E5)) O7 (own_off (ho29.kept_from (E32.next E5)) hk5 (by decide))
                   try replace ho32 := own_only3 (ho32.kept_from E5) O7 (own_off (ho32.kept_from E5) hk5 (by decide))
                   refine st_val (ro_assign (v := .int _ _) rfl) ?_
                   refine st_nil ?_
                   refine nx_then ?_
                   refine cd_seq ?_
                   refine cd_seq ?_
                   refine cd_region ?_
                   refine st_val (ro_move (v := .slice _ _ _) rfl) ?_
                   refine st_val (ro_move (v := .slice _ _ _) rfl) ?_
                   refine st_val (ro_move (v := .int _ _) rfl) ?_
                   refine st_val (ro_indexAddr1 RpcAny_e22 rfl rfl (by omega)) ?_
                   refine st_val (ro_load RpcAny_g23 rfl (by exact cellF ((((hB.next E29).next E32).next E5).only O7 (hg5)) hcell)) ?_
                   refine st_call RpcAny_k7 (eq_same A29 Ai c29 ci _ li _ rfl (RowOf.of_row (f := bV) (RowC.of_own ho29).1).2 (hri.from_ ((((hB.next E29).next E32).next E5).only O7 (hg5))) hli) ?_
                   rintro v40 w37 ⟨rfl, E40⟩
                   refine st_val (ro_not rfl) ?_
                   refine st_val (ro_move (v := .bool _) rfl) ?_
                   refine st_split (t := 42) rfl (fun Q38 => ?_) (fun Q38 => ?_)
                   · (try first | replace Q38 := bn_t Q38 | replace Q38 := bn_f Q38)
                     (try first | replace Q38 := bx_t Q38 | replace Q38 := bx_f Q38 | replace Q38 := be_t Q38 | replace Q38 := be_f Q38 | replace Q38 := of_decide_eq_true Q38 | replace Q38 := of_decide_eq_false Q38)
                     first
                      | (exfalso; first | omega | contradiction | (cases Q38; done))
                      | skip
                        refine st_gno rfl rfl ?_
                        refine st_gno rfl rfl ?_
                        refine st_gno rfl rfl ?_
                        refine st_gno rfl rfl ?_
                        refine st_gund rfl ?_
                        refine st_gund rfl ?_
                        refine st_gund rfl ?_
                        refine st_gund rfl ?_
                        refine st_gund rfl ?_
                        refine st_gund rfl ?_
                        refine st_gund rfl ?_
                        refine st_gund rfl ?_
                        refine st_gund rfl ?_
                        refine st_gno rfl rfl ?_
                        refine st_val (ro_pickT (v := .bool _) rfl rfl) ?_
                        refine st_nil ?_
                        refine nx_then ?_
                        refine cd_condT rfl ?_
                        refine cd_seq ?_
                        refine cd_region ?_
                        refine st_val (ro_assign (v := .bool _) rfl) ?_
                        refine st_nil ?_
                        refine nx_then ?_
                        refine cd_ret ?_
                        refine rt_then ?_
                        refine rt_block ?_
                        refine rt_then ?_
                        refine rt_then ?_
                        refine rt_block ?_
                        refine rt_then ?_
                        refine res1 (v := .bool _) rfl rfl ?_
                        exact ⟨rfl, (((((hB.next E29).next E32).next E5).only O7 (hg5)).next E40)⟩
                   · (try first | replace Q38 := bn_t Q38 | replace Q38 := bn_f Q38)
                     (try first | replace Q38 := bx_t Q38 | replace Q38 := bx_f Q38 | replace Q38 := be_t Q38 | replace Q38 := be_f Q38 | replace Q38 := of_decide_eq_true Q38 | replace Q38 := of_decide_eq_false Q38)
                     first
                      | (exfalso; first | omega | contradiction | (cases Q38; done))
                      | skip
                        refine st_unguard rfl ?_
                        refine st_val (ro_move (v := .int _ _) rfl) ?_
                        refine st_unguard rfl ?_
                        refine st_call RpcAny_k8 (lnum_any _ _) ?_
                        rintro v44 w39 ⟨rfl, rfl⟩
                        refine st_unguard rfl ?_
                        refine st_val (ro_neq rfl rfl) ?_
                        refine st_unguard rfl ?_
                        refine st_val (ro_move (v := .bool _) rfl) ?_
                        refine st_split (t := 46) rfl (fun Q40 => ?_) (fun Q40 => ?_)
                        · (try first | replace Q40 := bn_t Q40 | replace Q40 := bn_f Q40)
                          (try first | replace Q40 := bx_t Q40 | replace Q40 := bx_f Q40 | replace Q40 := be_t Q40 | replace Q40 := be_f Q40 | replace Q40 := of_decide_eq_true Q40 | replace Q40 := of_decide_eq_false Q40)
                          first
                           | (exfalso; first | omega | contradiction | (cases Q40; done))
                           | skip
                             refine st_unguard rfl ?_
                             refine st_val (ro_move (v := .int _ _) rfl) ?_
                             refine st_unguard rfl ?_
                             refine st_call RpcAny_k8 (lnum_any _ _) ?_
                             rintro v48 w41 ⟨rfl, rfl⟩
                             refine st_unguard rfl ?_
                             refine st_val (ro_neq rfl rfl) ?_
                             refine st_unguard rfl ?_
                             refine st_val (ro_move (v := .bool _) rfl) ?_
                             refine st_split (t := 50) rfl (fun Q42 => ?_) (fun Q42 => ?_)
                             · (try first | replace Q42 := bn_t Q42 | replace Q42 := bn_f Q42)
                               (try first | replace Q42 := bx_t Q42 | replace Q42 := bx_f Q42 | replace Q42 := be_t Q42 | replace Q42 := be_f Q42 | replace Q42 := of_decide_eq_true Q42 | replace Q42 := of_decide_eq_false Q42)
                               first
                                | (exfalso; first | omega | contradiction | (cases Q42; done))
                                | skip
                                  refine st_gno rfl rfl ?_
                                  refine st_gno rfl rfl ?_
                                  refine st_gno rfl rfl ?_
                                  refine st_gno rfl rfl ?_
                                  refine st_unguard rfl ?_
                                  refine st_val (ro_pickT (v := .bool _) rfl rfl) ?_
                                  refine st_unguard rfl ?_
                                  refine st_val (ro_pickT (v := .bool _) rfl rfl) ?_
                                  refine st_val (ro_pickF (v := .bool _) rfl rfl) ?_
                                  refine st_nil ?_
                                  refine nx_then ?_
                                  refine cd_condT rfl ?_
                                  refine cd_seq ?_
                                  refine cd_region ?_
                                  refine st_val (ro_assign (v := .bool _) rfl) ?_
                                  refine st_nil ?_
                                  refine nx_then ?_
                                  refine cd_ret ?_
                                  refine rt_then ?_
                                  refine rt_block ?_
                                  refine rt_then ?_
                                  refine rt_then ?_
                                  refine rt_block ?_
                                  refine rt_then ?_
                                  refine res1 (v := .bool _) rfl rfl ?_
                                  exact ⟨rfl, (((((hB.next E29).next E32).next E5).only O7 (hg5)).next E40)⟩
                             · (try first | replace Q42 := bn_t Q42 | replace Q42 := bn_f Q42)
                               (try first | replace Q42 := bx_t Q42 | replace Q42 := bx_f Q42 | replace Q42 := be_t Q42 | replace Q42 := be_f Q42 | replace Q42 := of_decide_eq_true Q42 | replace Q42 := of_decide_eq_false Q42)
                               first
                                | (exfalso; first | omega | contradiction | (cases Q42; done))
                                | skip
                                  refine st_unguard rfl ?_
                                  refine st_val (ro_loadA (cs := [_, _, _, _, _, _, _, _, _, _, _, _, _]) RpcAny_g27 RpcAny_z27 rfl (by exact (P7.from_ (From.rfl_.next E40)).whole)) ?_
                                  refine st_unguard rfl ?_
                                  refine st_val (ro_build (l := []) (RpcAny_b27_)) ?_
                                  refine st_unguard rfl ?_
                                  refine st_call RpcAny_k9 (eqRpc_same 0 0 0 0 0 0 0 0 false none 0 0 0 ⟨#[]⟩ false [] none 0 0 _ rfl rfl (Ents.nil_ _) (Ents.nil_ _) (by simp)) ?_
                                  rintro v53 w43 ⟨rfl, E53⟩
                                  refine st_unguard rfl ?_
                                  refine st_val (ro_not rfl) ?_
                                  refine st_unguard rfl ?_
                                  refine st_val (ro_pickF (v := .bool _) rfl rfl) ?_
                                  refine st_unguard rfl ?_
                                  refine st_val (ro_pickT (v := .bool _) rfl rfl) ?_
                                  refine st_val (ro_pickF (v := .bool _) rfl rfl) ?_
                                  refine st_nil ?_
                                  refine nx_then ?_
                                  refine cd_cond rfl (fun Q44 => ?_) (fun Q44 => ?_)
                                  · (try first | replace Q44 := bn_t Q44 | replace Q44 := bn_f Q44)
                                    (try first | replace Q44 := bx_t Q44 | replace Q44 := bx_f Q44 | replace Q44 := be_t Q44 | replace Q44 := be_f Q44 | replace Q44 := of_decide_eq_true Q44 | replace Q44 := of_decide_eq_false Q44)
                                    first
                                     | (exfalso; first | omega | contradiction | (cases Q44; done))
                                     | skip
                                       refine cd_seq ?_
                                       refine cd_region ?_
                                       refine st_val (ro_assign (v := .bool _) rfl) ?_
                                       refine st_nil ?_
                                       refine nx_then ?_
                                       refine cd_ret ?_
                                       refine rt_then ?_
                                       refine rt_block ?_
                                       refine rt_then ?_
                                       refine rt_then ?_
                                       refine rt_block ?_
                                       refine rt_then ?_
                                       refine res1 (v := .bool _) rfl rfl ?_
                                       exact ⟨rfl, ((((((hB.next E29).next E32).next E5).only O7 (hg5)).next E40).next E53)⟩
                                  · (try first | replace Q44 := bn_t Q44 | replace Q44 := bn_f Q44)
                                    (try first | replace Q44 := bx_t Q44 | replace Q44 := bx_f Q44 | replace Q44 := be_t Q44 | replace Q44 := be_f Q44 | replace Q44 := of_decide_eq_true Q44 | replace Q44 := of_decide_eq_false Q44)
                                    first
                                     | (exfalso; first | omega | contradiction | (cases Q44; done))
                                     | skip
                                       refine cd_skip ?_
                                       refine nx_then ?_
                                       refine cd_seq ?_
                                       refine cd_region ?_
                                       refine st_val (ro_move (v := .int _ _) rfl) ?_
                                       refine st_call RpcAny_k8 (lnum_any _ _) ?_
                                       rintro v59 w45 ⟨rfl, rfl⟩
                                       refine st_val (ro_eql rfl rfl) ?_
                                       refine st_nil ?_
                                       refine nx_then ?_
                                       refine cd_cond rfl (fun Q46 => ?_) (fun Q46 => ?_)
                                       · (try first | replace Q46 := bn_t Q46 | replace Q46 := bn_f Q46)
                                         (try first | replace Q46 := bx_t Q46 | replace Q46 := bx_f Q46 | replace Q46 := be_t Q46 | replace Q46 := be_f Q46 | replace Q46 := of_decide_eq_true Q46 | replace Q46 := of_decide_eq_false Q46)
                                         first
                                          | (exfalso; first | omega | contradiction | (cases Q46; done))
                                          | skip
                                            refine cd_seq ?_
                                            refine cd_region ?_
                                            refine st_val (ro_loadA (cs := [_, _, _, _, _, _, _, _, _, _, _, _, _]) RpcAny_g27 RpcAny_z27 rfl (by exact (P7.from_ ((From.rfl_.next E40).next E53)).whole)) ?_
                                            refine st_call RpcAny_k10 (enc_l li ss es A32 _ c32 _ rfl hbi hg (Ents.of_own (ho32.kept_from ((From.rfl_.next E40).next E53)) rfl) (hT.from_ ((((((hB.next E29).next E32).next E5).only O7 (hg5)).next E40).next E53))) ?_
                                            rintro v63 w47 ⟨⟨A63, c63, rfl, hr63⟩, E63⟩
                                            refine st_val (ro_move (v := .tuple _) rfl) ?_
                                            refine st_val (ro_extract rfl rfl) ?_
                                            refine st_val (ro_extract rfl rfl) ?_
                                            refine st_val (ro_assign (v := .slice _ _ _) rfl) ?_
                                            refine st_val (ro_assign (v := .int _ _) rfl) ?_
                                            refine st_nil ?_
                                            refine nx_then ?_
                                            refine cd_seq ?_
                                            refine cd_region ?_
                                            refine st_val (ro_move (v := .int _ _) rfl) ?_
                                            refine st_call RpcAny_k8 (lnum_any _ _) ?_
                                            rintro v67 w48 ⟨rfl, rfl⟩
                                            refine st_val (ro_neq rfl rfl) ?_
                                            refine st_val (ro_move (v := .bool _) rfl) ?_
                                            refine st_split (t := 69) rfl (fun Q49 => ?_) (fun Q49 => ?_)
                                            · (try first | replace Q49 := bn_t Q49 | replace Q49 := bn_f Q49)
                                              (try first | replace Q49 := bx_t Q49 | replace Q49 := bx_f Q49 | replace Q49 := be_t Q49 | replace Q49 := be_f Q49 | replace Q49 := of_decide_eq_true Q49 | replace Q49 := of_decide_eq_false Q49)
                                              first
                                               | (exfalso; first | omega | contradiction | (cases Q49; done))
                                               | skip
                                                 refine st_gno rfl rfl ?_
                                                 refine st_gno rfl rfl ?_
                                                 refine st_gno rfl rfl ?_
                                                 refine st_gno rfl rfl ?_
                                                 refine st_gno rfl rfl ?_
                                                 refine st_gno rfl rfl ?_
                                                 refine st_gno rfl rfl ?_
                                                 refine st_val (ro_pickT (v := .bool _) rfl rfl) ?_
                                                 refine st_val (ro_move (v := .bool _) rfl) ?_
                                                 refine st_gno rfl rfl ?_
                                                 refine st_gno rfl rfl ?_
                                                 refine st_gno rfl rfl ?_
                                                 refine st_val (ro_pickT (v := .bool _) rfl rfl) ?_
                                                 refine st_nil ?_
                                                 refine nx_then ?_
                                                 refine cd_condT rfl ?_
                                                 refine cd_seq ?_
                                                 refine cd_region ?_
                                                 refine st_val (ro_assign (v := .bool _) rfl) ?_
                                                 refine st_nil ?_
                                                 refine nx_then ?_
                                                 refine cd_ret ?_
                                                 refine rt_block ?_
                                                 refine rt_then ?_
                                                 refine rt_then ?_
                                                 refine rt_block ?_
                                                 refine rt_then ?_
                                                 refine res1 (v := .bool _) rfl rfl ?_
                                                 exact ⟨rfl, (((((((hB.next E29).next E32).next E5).only O7 (hg5)).next E40).next E53).next E63)⟩
                                            · (try first | replace Q49 := bn_t Q49 | replace Q49 := bn_f Q49)
                                              (try first | replace Q49 := bx_t Q49 | replace Q49 := bx_f Q49 | replace Q49 := be_t Q49 | replace Q49 := be_f Q49 | replace Q49 := of_decide_eq_true Q49 | replace Q49 := of_decide_eq_false Q49)
                                              first
                                               | (exfalso; first | omega | contradiction | (cases Q49; done))
                                               | skip
                                                 refine st_unguard rfl ?_
                                                 refine st_val (ro_move (v := .slice _ _ _) rfl) ?_
                                                 refine st_unguard rfl ?_
                                                 refine st_val (ro_move (v := .slice _ _ _) rfl) ?_
                                                 refine st_unguard rfl ?_
                                                 refine st_val (ro_move (v := .int _ _) rfl) ?_
                                                 refine st_unguard rfl ?_
                                                 refine st_val (ro_indexAddr1 RpcAny_e22 rfl rfl (by omega)) ?_
                                                 refine st_unguard rfl ?_
                                                 refine st_val (ro_load RpcAny_g23 rfl (by exact cellF (((((((hB.next E29).next E32).next E5).only O7 (hg5)).next E40).next E53).next E63) hcell)) ?_
                                                 refine st_unguard rfl ?_
                                                 refine st_call RpcAny_k7 (eq_same A63 Ai c63 ci _ li _ rfl hr63 (hri.from_ (((((((hB.next E29).next E32).next E5).only O7 (hg5)).next E40).next E53).next E63)) hli) ?_
                                                 rintro v75 w50 ⟨rfl, E75⟩
                                                 refine st_unguard rfl ?_
                                                 refine st_val (ro_not rfl) ?_
                                                 refine st_val (ro_pickF (v := .bool _) rfl rfl) ?_
                                                 refine st_val (ro_move (v := .bool _) rfl) ?_
                                                 refine st_split (t := 78) rfl (fun Q51 => ?_) (fun Q51 => ?_)
                                                 · (try first | replace Q51 := bn_t Q51 | replace Q51 := bn_f Q51)
                                                   (try first | replace Q51 := bx_t Q51 | replace Q51 := bx_f Q51 | replace Q51 := be_t Q51 | replace Q51 := be_f Q51 | replace Q51 := of_decide_eq_true Q51 | replace Q51 := of_decide_eq_false Q51)
                                                   first
                                                    | (exfalso; first | omega | contradiction | (cases Q51; done))
                                                    | skip
                                                      refine st_gno rfl rfl ?_
                                                      refine st_gno rfl rfl ?_
                                                      refine st_gno rfl rfl ?_
                                                      refine st_val (ro_pickT (v := .bool _) rfl rfl) ?_
                                                      refine st_nil ?_
                                                      refine nx_then ?_
                                                      refine cd_condT rfl ?_
                                                      refine cd_seq ?_
                                                      refine cd_region ?_
                                                      refine st_val (ro_assign (v := .bool _) rfl) ?_
                                                      refine st_nil ?_
                                                      refine nx_then ?_
                                                      refine cd_ret ?_
                                                      refine rt_block ?_
                                                      refine rt_then ?_
                                                      refine rt_then ?_
                                                      refine rt_block ?_
                                                      refine rt_then ?_
                                                      refine res1 (v := .bool _) rfl rfl ?_
                                                      exact ⟨rfl, ((((((((hB.next E29).next E32).next E5).only O7 (hg5)).next E40).next E53).next E63).next E75)⟩
                                                 · (try first | replace Q51 := bn_t Q51 | replace Q51 := bn_f Q51)
                                                   (try first | replace Q51 := bx_t Q51 | replace Q51 := bx_f Q51 | replace Q51 := be_t Q51 | replace Q51 := be_f Q51 | replace Q51 := of_decide_eq_true Q51 | replace Q51 := of_decide_eq_false Q51)
                                                   first
                                                    | (exfalso; first | omega | contradiction | (cases Q51; done))
                                                    | skip
                                                      refine st_unguard rfl ?_
                                                      refine st_val (ro_loadA (cs := [_, _, _, _, _, _, _, _, _, _, _, _, _]) RpcAny_g27 RpcAny_z27 rfl (by exact (P7.from_ ((((From.rfl_.next E40).next E53).next E63).next E75)).whole)) ?_
                                                      refine st_unguard rfl ?_
                                                      refine st_call RpcAny_k11 (may_l ss es A32 _ c32 _ rfl hg.2.2.2.2 (Ents.of_own (ho32.kept_from ((((From.rfl_.next E40).next E53).next E63).next E75)) rfl) (by omega)) ?_
                                                      rintro v80 w52 ⟨rfl, E80⟩
                                                      refine st_unguard rfl ?_
                                                      refine st_val (ro_not rfl) ?_
                                                      refine st_val (ro_pickF (v := .bool _) rfl rfl) ?_
                                                      refine st_nil ?_
                                                      refine nx_then ?_
                                                      refine cd_cond rfl (fun Q53 => ?_) (fun Q53 => ?_)
                                                      · (try first | replace Q53 := bn_t Q53 | replace Q53 := bn_f Q53)
                                                        (try first | replace Q53 := bx_t Q53 | replace Q53 := bx_f Q53 | replace Q53 := be_t Q53 | replace Q53 := be_f Q53 | replace Q53 := of_decide_eq_true Q53 | replace Q53 := of_decide_eq_false Q53)
                                                        first
                                                         | (exfalso; first | omega | contradiction | (cases Q53; done))
                                                         | skip
                                                           refine cd_seq ?_
                                                           refine cd_region ?_
                                                           refine st_val (ro_assign (v := .bool _) rfl) ?_
                                                           refine st_nil ?_
                                                           refine nx_then ?_
                                                           refine cd_ret ?_
                                                           refine rt_block ?_
                                                           refine rt_then ?_
                                                           refine rt_then ?_
                                                           refine rt_block ?_
                                                           refine rt_then ?_
                                                           refine res1 (v := .bool _) rfl rfl ?_
                                                           exact ⟨rfl, (((((((((hB.next E29).next E32).next E5).only O7 (hg5)).next E40).next E53).next E63).next E75).next E80)⟩
                                                      · (try first | replace Q53 := bn_t Q53 | replace Q53 := bn_f Q53)
                                                        (try first | replace Q53 := bx_t Q53 | replace Q53 := bx_f Q53 | replace Q53 := be_t Q53 | replace Q53 := be_f Q53 | replace Q53 := of_decide_eq_true Q53 | replace Q53 := of_decide_eq_false Q53)
                                                        first
                                                         | (exfalso; first | omega | contradiction | (cases Q53; done))
                                                         | skip
                                                           refine cd_skip ?_
                                                           refine nx_block ?_
                                                           refine nx_then ?_
                                                           refine cd_region ?_
                                                           refine st_val (ro_move (v := .int _ _) rfl) ?_
                                                           refine st_val (ro_addN (b := 1) rfl rfl (by omega)) ?_
                                                           refine st_val (ro_assign (v := .int _ _) rfl) ?_
                                                           refine st_nil ?_
                                                           refine nx_cut (i + 1) ⟨(by first | rfl | (refine int_eq ?_; omega)), trivial⟩ (by (iterate 167 refine agr_cons rfl ?_); exact agr_rfl) ⟨?_, ?_⟩
                                                           · exact ⟨by omega, (((((((((hB.next E29).next E32).next E5).only O7 (hg5)).next E40).next E53).next E63).next E75).next E80)⟩
                                                           · omega
                                       · (try first | replace Q46 := bn_t Q46 | replace Q46 := bn_f Q46)
                                         (try first | replace Q46 := bx_t Q46 | replace Q46 := bx_f Q46 | replace Q46 := be_t Q46 | replace Q46 := be_f Q46 | replace Q46 := of_decide_eq_true Q46 | replace Q46 := of_decide_eq_false Q46)
                                         first
                                          | (exfalso; first | omega | contradiction | (cases Q46; done))
                                          | skip
                                            refine cd_skip ?_
                                            refine nx_block ?_
                                            refine nx_then ?_
                                            refine cd_region ?_
                                            refine st_val (ro_move (v := .int _ _) rfl) ?_
                                            refine st_val (ro_addN (b := 1) rfl rfl (by omega)) ?_
                                            refine st_val (ro_assign (v := .int _ _) rfl) ?_
                                            refine st_nil ?_
                                            refine nx_cut (i + 1) ⟨(by first | rfl | (refine int_eq ?_; omega)), trivial⟩ (by (iterate 141 refine agr_cons rfl ?_); exact agr_rfl) ⟨?_, ?_⟩
                                            · exact ⟨by omega, ((((((hB.next E29).next E32).next E5).only O7 (hg5)).next E40).next E53)⟩
                                            · omega
                        · (try first | replace Q40 := bn_t Q40 | replace Q40 := bn_f Q40)
                          (try first | replace Q40 := bx_t Q40 | replace Q40 := bx_f Q40 | replace Q40 := be_t Q40 | replace Q40 := be_f Q40 | replace Q40 := of_decide_eq_true Q40 | replace Q40 := of_decide_eq_false Q40)
                          first
                           | (exfalso; first | omega | contradiction | (cases Q40; done))
                           | skip
                             refine st_gno rfl rfl ?_
                             refine st_gno rfl rfl ?_
                             refine st_gno rfl rfl ?_
                             refine st_gno rfl rfl ?_
                             refine st_gund rfl ?_
                             refine st_gund rfl ?_
                             refine st_gund rfl ?_
                             refine st_gund rfl ?_
                             refine st_gno rfl rfl ?_
                             refine st_unguard rfl ?_
                             refine st_val (ro_pickF (v := .bool _) rfl rfl) ?_
                             refine st_val (ro_pickF (v := .bool _) rfl rfl) ?_
                             refine st_nil ?_
                             refine nx_then ?_
                             refine cd_condF rfl ?_
                             refine cd_skip ?_
                             refine nx_then ?_
                             refine cd_seq ?_
                             refine cd_region ?_
                             refine st_val (ro_move (v := .int _ _) rfl) ?_
                             refine st_call RpcAny_k8 (lnum_any _ _) ?_
                             rintro v59 w54 ⟨rfl, rfl⟩
                             refine st_val (ro_eql rfl rfl) ?_
                             refine st_nil ?_
                             refine nx_then ?_
                             refine cd_cond rfl (fun Q55 => ?_) (fun Q55 => ?_)
                             · (try first | replace Q55 := bn_t Q55 | replace Q55 := bn_f Q55)
                               (try first | replace Q55 := bx_t Q55 | replace Q55 := bx_f Q55 | replace Q55 := be_t Q55 | replace Q55 := be_f Q55 | replace Q55 := of_decide_eq_true Q55 | replace Q55 := of_decide_eq_false Q55)
                               first
                                | (exfalso; first | omega | contradiction | (cases Q55; done))
                                | skip
                                  refine cd_seq ?_
                                  refine cd_region ?_
                                  refine st_val (ro_loadA (cs := [_, _, _, _, _, _, _, _, _, _, _, _, _]) RpcAny_g27 RpcAny_z27 rfl (by exact (P7.from_ (From.rfl_.next E40)).whole)) ?_
                                  refine st_call RpcAny_k10 (enc_l li ss es A32 _ c32 _ rfl hbi hg (Ents.of_own (ho32.kept_from (From.rfl_.next E40)) rfl) (hT.from_ (((((hB.next E29).next E32).next E5).only O7 (hg5)).next E40))) ?_
                                  rintro v63 w56 ⟨⟨A63, c63, rfl, hr63⟩, E63⟩
                                  refine st_val (ro_move (v := .tuple _) rfl) ?_
                                  refine st_val (ro_extract rfl rfl) ?_
                                  refine st_val (ro_extract rfl rfl) ?_
                                  refine st_val (ro_assign (v := .slice _ _ _) rfl) ?_
                                  refine st_val (ro_assign (v := .int _ _) rfl) ?_
                                  refine st_nil ?_
                                  refine nx_then ?_
                                  refine cd_seq ?_
                                  refine cd_region ?_
                                  refine st_val (ro_move (v := .int _ _) rfl) ?_
                                  refine st_call RpcAny_k8 (lnum_any _ _) ?_
                                  rintro v67 w57 ⟨rfl, rfl⟩
                                  refine st_val (ro_neq rfl rfl) ?_
                                  refine st_val (ro_move (v := .bool _) rfl) ?_
                                  refine st_split (t := 69) rfl (fun Q58 => ?_) (fun Q58 => ?_)
                                  · (try first | replace Q58 := bn_t Q58 | replace Q58 := bn_f Q58)
                                    (try first | replace Q58 := bx_t Q58 | replace Q58 := bx_f Q58 | replace Q58 := be_t Q58 | replace Q58 := be_f Q58 | replace Q58 := of_decide_eq_true Q58 | replace Q58 := of_decide_eq_false Q58)
                                    first
                                     | (exfalso; first | omega | contradiction | (cases Q58; done))
                                     | skip
                                       refine st_gno rfl rfl ?_
                                       refine st_gno rfl rfl ?_
                                       refine st_gno rfl rfl ?_
                                       refine st_gno rfl rfl ?_
                                       refine st_gno rfl rfl ?_
                                       refine st_gno rfl rfl ?_
                                       refine st_gno rfl rfl ?_
                                       refine st_val (ro_pickT (v := .bool _) rfl rfl) ?_
                                       refine st_val (ro_move (v := .bool _) rfl) ?_
                                       refine st_gno rfl rfl ?_
                                       refine st_gno rfl rfl ?_
                                       refine st_gno rfl rfl ?_
                                       refine st_val (ro_pickT (v := .bool _) rfl rfl) ?_
                                       refine st_nil ?_
                                       refine nx_then ?_
                                       refine cd_condT rfl ?_
                                       refine cd_seq ?_
                                       refine cd_region ?_
                                       refine st_val (ro_assign (v := .bool _) rfl) ?_
                                       refine st_nil ?_
                                       refine nx_then ?_
                                       refine cd_ret ?_
                                       refine rt_block ?_
                                       refine rt_then ?_
                                       refine rt_then ?_
                                       refine rt_block ?_
                                       refine rt_then ?_
                                       refine res1 (v := .bool _) rfl rfl ?_
                                       exact ⟨rfl, ((((((hB.next E29).next E32).next E5).only O7 (hg5)).next E40).next E63)⟩
                                  · (try first | replace Q58 := bn_t Q58 | replace Q58 := bn_f Q58)
                                    (try first | replace Q58 := bx_t Q58 | replace Q58 := bx_f Q58 | replace Q58 := be_t Q58 | replace Q58 := be_f Q58 | replace Q58 := of_decide_eq_true Q58 | replace Q58 := of_decide_eq_false Q58)
                                    first
                                     | (exfalso; first | omega | contradiction | (cases Q58; done))
                                     | skip
                                       refine st_unguard rfl ?_
                                       refine st_val (ro_move (v := .slice _ _ _) rfl) ?_
                                       refine st_unguard rfl ?_
                                       refine st_val (ro_move (v := .slice _ _ _) rfl) ?_
                                       refine st_unguard rfl ?_
                                       refine st_val (ro_move (v := .int _ _) rfl) ?_
                                       refine st_unguard rfl ?_
                                       refine st_val (ro_indexAddr1 RpcAny_e22 rfl rfl (by omega)) ?_
                                       refine st_unguard rfl ?_
                                       refine st_val (ro_load RpcAny_g23 rfl (by exact cellF ((((((hB.next E29).next E32).next E5).only O7 (hg5)).next E40).next E63) hcell)) ?_
                                       refine st_unguard rfl ?_
                                       refine st_call RpcAny_k7 (eq_same A63 Ai c63 ci _ li _ rfl hr63 (hri.from_ ((((((hB.next E29).next E32).next E5).only O7 (hg5)).next E40).next E63)) hli) ?_
                                       rintro v75 w59 ⟨rfl, E75⟩
                                       refine st_unguard rfl ?_
                                       refine st_val (ro_not rfl) ?_
                                       refine st_val (ro_pickF (v := .bool _) rfl rfl) ?_
                                       refine st_val (ro_move (v := .bool _) rfl) ?_
                                       refine st_split (t := 78) rfl (fun Q60 => ?_) (fun Q60 => ?_)
                                       · (try first | replace Q60 := bn_t Q60 | replace Q60 := bn_f Q60)
                                         (try first | replace Q60 := bx_t Q60 | replace Q60 := bx_f Q60 | replace Q60 := be_t Q60 | replace Q60 := be_f Q60 | replace Q60 := of_decide_eq_true Q60 | replace Q60 := of_decide_eq_false Q60)
                                         first
                                          | (exfalso; first | omega | contradiction | (cases Q60; done))
                                          | skip
                                            refine st_gno rfl rfl ?_
                                            refine st_gno rfl rfl ?_
                                            refine st_gno rfl rfl ?_
                                            refine st_val (ro_pickT (v := .bool _) rfl rfl) ?_
                                            refine st_nil ?_
                                            refine nx_then ?_
                                            refine cd_condT rfl ?_
                                            refine cd_seq ?_
                                            refine cd_region ?_
                                            refine st_val (ro_assign (v := .bool _) rfl) ?_
                                            refine st_nil ?_
                                            refine nx_then ?_
                                            refine cd_ret ?_
                                            refine rt_block ?_
                                            refine rt_then ?_
                                            refine rt_then ?_
                                            refine rt_block ?_
                                            refine rt_then ?_
                                            refine res1 (v := .bool _) rfl rfl ?_
                                            exact ⟨rfl, (((((((hB.next E29).next E32).next E5).only O7 (hg5)).next E40).next E63).next E75)⟩
                                       · (try first | replace Q60 := bn_t Q60 | replace Q60 := bn_f Q60)
                                         (try first | replace Q60 := bx_t Q60 | replace Q60 := bx_f Q60 | replace Q60 := be_t Q60 | replace Q60 := be_f Q60 | replace Q60 := of_decide_eq_true Q60 | replace Q60 := of_decide_eq_false Q60)
                                         first
                                          | (exfalso; first | omega | contradiction | (cases Q60; done))
                                          | skip
                                            refine st_unguard rfl ?_
                                            refine st_val (ro_loadA (cs := [_, _, _, _, _, _, _, _, _, _, _, _, _]) RpcAny_g27 RpcAny_z27 rfl (by exact (P7.from_ (((From.rfl_.next E40).next E63).next E75)).whole)) ?_
                                            refine st_unguard rfl ?_
                                            refine st_call RpcAny_k11 (may_l ss es A32 _ c32 _ rfl hg.2.2.2.2 (Ents.of_own (ho32.kept_from (((From.rfl_.next E40).next E63).next E75)) rfl) (by omega)) ?_
                                            rintro v80 w61 ⟨rfl, E80⟩
                                            refine st_unguard rfl ?_
                                            refine st_val (ro_not rfl) ?_
                                            refine st_val (ro_pickF (v := .bool _) rfl rfl) ?_
                                            refine st_nil ?_
                                            refine nx_then ?_
                                            refine cd_cond rfl (fun Q62 => ?_) (fun Q62 => ?_)
                                            · (try first | replace Q62 := bn_t Q62 | replace Q62 := bn_f Q62)
                                              (try first | replace Q62 := bx_t Q62 | replace Q62 := bx_f Q62 | replace Q62 := be_t Q62 | replace Q62 := be_f Q62 | replace Q62 := of_decide_eq_true Q62 | replace Q62 := of_decide_eq_false Q62)
                                              first
                                               | (exfalso; first | omega | contradiction | (cases Q62; done))
                                               | skip
                                                 refine cd_seq ?_
                                                 refine cd_region ?_
                                                 refine st_val (ro_assign (v := .bool _) rfl) ?_
                                                 refine st_nil ?_
                                                 refine nx_then ?_
                                                 refine cd_ret ?_
                                                 refine rt_block ?_
                                                 refine rt_then ?_
                                                 refine rt_then ?_
                                                 refine rt_block ?_
                                                 refine rt_then ?_
                                                 refine res1 (v := .bool _) rfl rfl ?_
                                                 exact ⟨rfl, ((((((((hB.next E29).next E32).next E5).only O7 (hg5)).next E40).next E63).next E75).next E80)⟩
                                            · (try first | replace Q62 := bn_t Q62 | replace Q62 := bn_f Q62)
                                              (try first | replace Q62 := bx_t Q62 | replace Q62 := bx_f Q62 | replace Q62 := be_t Q62 | replace Q62 := be_f Q62 | replace Q62 := of_decide_eq_true Q62 | replace Q62 := of_decide_eq_false Q62)
                                              first
                                               | (exfalso; first | omega | contradiction | (cases Q62; done))
                                               | skip
                                                 refine cd_skip ?_
                                                 refine nx_block ?_
                                                 refine nx_then ?_
                                                 refine cd_region ?_
                                                 refine st_val (ro_move (v := .int _ _) rfl) ?_
                                                 refine st_val (ro_addN (b := 1) rfl rfl (by omega)) ?_
                                                 refine st_val (ro_assign (v := .int _ _) rfl) ?_
                                                 refine st_nil ?_
                                                 refine nx_cut (i + 1) ⟨(by first | rfl | (refine int_eq ?_; omega)), trivial⟩ (by (iterate 166 refine agr_cons rfl ?_); exact agr_rfl) ⟨?_, ?_⟩
                                                 · exact ⟨by omega, ((((((((hB.next E29).next E32).next E5).only O7 (hg5)).next E40).next E63).next E75).next E80)⟩
                                                 · omega
                             · (try first | replace Q55 := bn_t Q55 | replace Q55 := bn_f Q55)
                               (try first | replace Q55 := bx_t Q55 | replace Q55 := bx_f Q55 | replace Q55 := be_t Q55 | replace Q55 := be_f Q55 | replace Q55 := of_decide_eq_true Q55 | replace Q55 := of_decide_eq_false Q55)
                               first
                                | (exfalso; first | omega | contradiction | (cases Q55; done))
                                | skip
                                  refine cd_skip ?_
                                  refine nx_block ?_
                                  refine nx_then ?_
                                  refine cd_region ?_
                                  refine st_val (ro_move (v := .int _ _) rfl) ?_
                                  refine st_val (ro_addN (b := 1) rfl rfl (by omega)) ?_
                                  refine st_val (ro_assign (v := .int _ _) rfl) ?_
                                  refine st_nil ?_
                                  refine nx_cut (i + 1) ⟨(by first | rfl | (refine int_eq ?_; omega)), trivial⟩ (by (iterate 140 refine agr_cons rfl ?_); exact agr_rfl) ⟨?_, ?_⟩
                                  · exact ⟨by omega, (((((hB.next E29).next E32).next E5).only O7 (hg5)).next E40)⟩
                                  · omega
       · (try first | replace Q3 := bn_t Q3 | replace Q3 := bn_f Q3)
         (try first | replace Q3 := bx_t Q3 | replace Q3 := bx_f Q3 | replace Q3 := be_t Q3 | replace Q3 := be_f Q3 | replace Q3 := of_decide_eq_true Q3 | replace Q3 := of_decide_eq_false Q3)
         first
          | (exfalso; first | omega | contradiction | (cases Q3; done))
          | skip
            refine cd_exit ?_
            refine ex_then ?_
            refine ex_then ?_
            refine ex_block ?_
            refine nx_then ?_
            refine cd_seq ?_
            refine cd_region ?_
            refine st_call RpcAny_k12 (wakes_any _ (hT.from_ hB)) ?_
            rintro v83 w63 ⟨rfl, E83⟩
            refine st_val (ro_assign (v := .bool _) rfl) ?_
            refine st_nil ?_
            refine nx_then ?_
            refine cd_ret ?_
            refine res1 (v := .bool _) rfl rfl ?_
            exact ⟨rfl, (hB.next E83)⟩
  · (try first | replace Q2 := bn_t Q2 | replace Q2 := bn_f Q2)
    (try first | replace Q2 := bx_t Q2 | replace Q2 := bx_f Q2 | replace Q2 := be_t Q2 | replace Q2 := be_f Q2 | replace Q2 := of_decide_eq_true Q2 | replace Q2 := of_decide_eq_false Q2)
    first
     | (exfalso; first | omega | contradiction | (cases Q2; done))
     | skip
       refine st_gno rfl rfl ?_
       refine st_gno rfl rfl ?_
       refine st_val (ro_pickF (v := .bool _) rfl rfl) ?_
       refine st_nil ?_
       refine nx_then ?_
       refine cd_condF rfl ?_
       refine cd_exit ?_
       refine ex_then ?_
       refine ex_then ?_
       refine ex_block ?_
       refine nx_then ?_
       refine cd_seq ?_
       refine cd_region ?_
       refine st_call RpcAny_k12 (wakes_any _ (hT.from_ hB)) ?_
       rintro v83 w64 ⟨rfl, E83⟩
       refine st_val (ro_assign (v := .bool _) rfl) ?_
       refine st_nil ?_
       refine nx_then ?_
       refine cd_ret ?_
       refine res1 (v := .bool _) rfl rfl ?_
       exact ⟨rfl, (hB.next E83)⟩
/-- A WORLD FOR THE WITNESS: the settled one, the variables holding what their initialisers lay. -/
noncomputable def RpcAny_world (os : Os) : World :=
  { World.holding Tryd.prog os ⟨#[], #[], []⟩ with heap := (World.holding Tryd.prog os ⟨#[], #[], []⟩).heap.modify 0 fun | .cells _ t frozen => .cells #[.int .u32 0, .int .u32 498536548, .int .u32 997073096, .int .u32 651767980, .int .u32 1994146192, .int .u32 1802195444, .int .u32 1303535960, .int .u32 1342533948, .int .u32 3988292384, .int .u32 4027552580, .int .u32 3604390888, .int .u32 3412177804, .int .u32 2607071920, .int .u32 2262029012, .int .u32 2685067896, .int .u32 3183342108] t frozen | o => o }
theorem RpcAny_met (os : Os) : laidMet Tryd.prog Rows.rpcAnyRow.laid ((RpcAny_world os).forCall (fun _ _ => 0) ⟨#[], #[.slice none 0 0], []⟩).memory :=
  laidMet_of_run' 8 (by kernel_rfl) (by kernel_rfl)
theorem RpcAny_reads (os : Os) {H : Type} (enc : TypeId × Value → H) : ∃ places, DataW.whole enc Tryd.prog ((RpcAny_world os).forCall (fun _ _ => 0) ⟨#[], #[.slice none 0 0], []⟩).memory Tryd.f3.params.toList Rows.rpcAnySpec.vars false #[(.slice none 0 0 : Value)].toList 8 = some ([.nil], [], places) :=
  ⟨[], by kernel_rfl⟩

set_option maxRecDepth 100000 in
theorem RpcAny_lifted (os : Os) (started : os.Started) (H : Type) (enc : TypeId × Value → H) (F : Stop.Interp) :
    ReturnsInHanded {} Tryd.checked os 3 .any ((OpenSpec.ofChange Rows.rpcAnySpec).preRow enc Tryd.prog Tryd.f3 Rows.rpcAnyRow.domain false Rows.rpcAnyRow.laid) (((OpenSpec.ofChange Rows.rpcAnySpec).at F).post enc Tryd.prog Tryd.f3 false true false false) := by
  obtain ⟨places, hx⟩ := RpcAny_reads os enc
  refine returnsInHanded_of_row (C := Tryd.checked) (s := OpenSpec.ofChange Rows.rpcAnySpec) Tryd.own started (by kernel_rfl) Tryd.func3
    (witness_row_at (enc := enc) (C := Tryd.checked) false (RpcAny_world os) #[.slice none 0 0] rfl (by kernel_rfl) (by kernel_rfl) (by kernel_rfl)
      (OpenSpec.preRow_of_cond 8 hx (by kernel_rfl) (fun k hk => by cases hk) (by kernel_rfl) (RpcAny_met os))) ?_
  intro W base args ds gs before hval hW _ _ hsz hL hS _
  exact law_step_laid 3 Tryd.f3 22 4 Rows.rpcAnySpec Tryd.params3 (by kernel_rfl) Tryd.underlying4 rfl (fun _ => rfl) (by kernel_rfl) (of_decide_eq_true (by kernel_rfl)) Rows.rpcAnyRow.laid (walk_laid_sl (.sl (.int .u8)) (by kernel_rfl) Rows.rpcAnyRow.laid (fun _ h => table_of h) any_law) W base args ds gs before hval hW hsz hL hS

theorem RpcAny_said : Rows.RpcAnySaid :=
  OpenClaim.holds_of_cond 3 Tryd.f3 rfl rfl rfl rfl rfl rfl rfl ⟨rfl, rfl, rfl, rfl, rfl⟩ rfl rfl rfl rfl rfl (by kernel_rfl) Tryd.func3 (by kernel_rfl)
    (of_decide_eq_true (by kernel_rfl)) (by unfold Func.isWrapper; first | (rw [if_pos (by decide +kernel)]; kernel_rfl) | (rw [if_neg (by decide +kernel)]; exact ⟨rfl, rfl⟩))
    (fun os started H enc _ F => by rw [OpenClaim.pre_eq_preRow]; exact RpcAny_lifted os started H enc F)

theorem RpcAny_plain (f : FuncId) (fn : Func) (hf : Tryd.pinned.checked.prog.funcNamed "lectern/lecternlaw25.RpcAny" = some f) (hfn : Tryd.pinned.checked.prog.funcs[f]? = some fn) :
    false = Tryd.pinned.checked.prog.looks [] ∧ ∀ (j : Nat) t, fn.params[j]? = some t → Tryd.pinned.checked.prog.wantsStandIn t = false := by
  obtain rfl : f = 3 := Option.some.inj ((show Tryd.prog.funcNamed "lectern/lecternlaw25.RpcAny" = some 3 by kernel_rfl).symm.trans hf) |>.symm
  obtain rfl : fn = Tryd.f3 := (Option.some.inj (Tryd.func3.symm.trans hfn)).symm
  refine ⟨by kernel_rfl, fun j t ht => ?_⟩
  rw [(Tryd.params3)] at ht
  obtain rfl : t = 22 := by simpa using Array.mem_of_getElem? ht
  exact (show Tryd.prog.wantsStandIn 22 = false by kernel_rfl)

theorem RpcAny_holds : Rows.RpcAnyCardSaid :=
  Claim7.holds_tied_plain_at .later [] _ _ _ _ RpcAny_said (fun _ h => by cases h) (by kernel_rfl) (fun _ h => by cases h) rpcAny_row_tie rfl ⟨rfl, rfl⟩ (by kernel_rfl) rfl RpcAny_plain (by kernel_rfl)
#print axioms RpcAny_holds

end Go.Proofs.YtjliefglelcooaaDoor
