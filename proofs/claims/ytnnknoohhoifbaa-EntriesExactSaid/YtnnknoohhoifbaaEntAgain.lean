/- The law EntriesAgain. -/
import Derived.Test.YtnnknoohhoifbaaEntMerge
namespace Go.Proofs.Ytnnknoohhoifbaa
open Go.RowKit
open Go.ChangeShapes Go.WideShapes Go.ChangeAt
theorem EntAgain_e22 : elemQ Try.prog 22 = some (27, 7) := by kernel_rfl
theorem EntAgain_l22 : (elemQ Try.prog 22).isSome = true := by kernel_rfl
theorem EntAgain_g27 : aggQ Try.prog 27 = some true := by kernel_rfl
theorem EntAgain_z27 : sizeQ Try.prog 27 = some 7 := by kernel_rfl
theorem EntAgain_o27 : zeroQ Try.prog 27 = some (.agg #[.int .i64 0, .int .i64 0, .slice none 0 0, .int .i64 0, .int .i64 0, .slice none 0 0, .int .i64 0]) := by kernel_rfl
theorem EntAgain_k12 : callable Try.prog 12 = true := by kernel_rfl
theorem EntAgain_f27_0 : fieldQ Try.prog 27 0 = some 0 := by kernel_rfl
theorem EntAgain_f25_2 : fieldQ Try.prog 25 2 = some 2 := by kernel_rfl
theorem EntAgain_g23 : aggQ Try.prog 23 = some false := by kernel_rfl
theorem EntAgain_l23 : (elemQ Try.prog 23).isSome = true := by kernel_rfl
theorem EntAgain_g25 : aggQ Try.prog 25 = some true := by kernel_rfl
theorem EntAgain_z25 : sizeQ Try.prog 25 = some 3 := by kernel_rfl
theorem EntAgain_f27_1 : fieldQ Try.prog 27 1 = some 3 := by kernel_rfl
theorem EntAgain_g3 : aggQ Try.prog 3 = some false := by kernel_rfl
theorem EntAgain_f27_2 : fieldQ Try.prog 27 2 = some 4 := by kernel_rfl
theorem EntAgain_f27_3 : fieldQ Try.prog 27 3 = some 5 := by kernel_rfl
theorem EntAgain_k36 : callable Try.prog 36 = true := by kernel_rfl
theorem EntAgain_o25 : zeroQ Try.prog 25 = some (.agg #[.int .i64 0, .int .i64 0, .slice none 0 0]) := by kernel_rfl
theorem EntAgain_k23 : callable Try.prog 23 = true := by kernel_rfl
theorem EntAgain_k32 : callable Try.prog 32 = true := by kernel_rfl
theorem EntAgain_k24 : callable Try.prog 24 = true := by kernel_rfl
theorem EntAgain_f25_0 : fieldQ Try.prog 25 0 = some 0 := by kernel_rfl
theorem EntAgain_e23 : elemQ Try.prog 23 = some (63, 3) := by kernel_rfl
theorem EntAgain_f63_0 : fieldQ Try.prog 63 0 = some 0 := by kernel_rfl
theorem EntAgain_f63_1 : fieldQ Try.prog 63 1 = some 1 := by kernel_rfl
theorem EntAgain_f25_1 : fieldQ Try.prog 25 1 = some 1 := by kernel_rfl
theorem EntAgain_k35 : callable Try.prog 35 = true := by kernel_rfl
theorem runs_get : ∀ (zs : List Ent) (p t : Int), runs zs p t = true → ∀ (r : Nat) (h : r < zs.length), zs[r].i = p + 1 + r
  | [], _, _, _, r, h => by simp at h
  | e :: zs, p, t, hr, 0, _ => by have := (runs_head hr).1; simp; omega
  | e :: zs, p, t, hr, r + 1, h => by
    have := runs_get zs (p + 1) e.t (runs_head hr).2 r (by simpa using h)
    simp only [List.getElem_cons_succ]
    omega
theorem mgSkip_all {B T : Int} {xs : List Ent} : ∀ (zs : List Ent), (∀ e ∈ zs, e.i ≤ B + xs.length ∧ termI B T xs e.i = e.t) → mgSkip B T xs zs = []
  | [], _ => rfl
  | e :: r, h => by rw [mgSkip_go (h e (List.mem_cons_self ..))]; exact mgSkip_all r fun x hx => h x (List.mem_cons_of_mem _ hx)
theorem mgSkip_drop {B T : Int} {xs : List Ent} : ∀ (zs : List Ent), ∃ d, d ≤ zs.length ∧ mgSkip B T xs zs = zs.drop d ∧ ∀ (r : Nat) (h : r < zs.length), r < d → zs[r].i ≤ B + xs.length ∧ termI B T xs zs[r].i = zs[r].t
  | [] => ⟨0, by simp, rfl, fun r h => by simp at h⟩
  | e :: r => by
    by_cases h : e.i ≤ B + xs.length ∧ termI B T xs e.i = e.t
    · obtain ⟨d, h1, h2, h3⟩ := mgSkip_drop (B := B) (T := T) (xs := xs) r
      refine ⟨d + 1, by simpa using h1, by rw [mgSkip_go h, h2]; rfl, fun i hi hd => ?_⟩
      cases i with
      | zero => exact h
      | succ i => exact h3 i (by simpa using hi) (by omega)
    · exact ⟨0, by simp, by rw [mgSkip_stop h]; rfl, fun i _ hd => by omega⟩
theorem termI_at {B T : Int} {xs : List Ent} {r : Nat} (h : r < xs.length) : termI B T xs (B + 1 + r) = xs[r].t := by
  unfold termI
  rw [if_neg (by omega), show (B + 1 + (r : Int) - B - 1).toNat = r by omega, List.getElem?_eq_getElem h]
theorem termI_take {B T i : Int} {xs zs : List Ent} {k : Nat} (hk : k ≤ xs.length) (h0 : B ≤ i) (h1 : i ≤ B + k) : termI B T (xs.take k ++ zs) i = termI B T xs i := by
  unfold termI
  split
  · rfl
  · rw [List.getElem?_append_left (by simp; omega), List.getElem?_take, if_pos (by omega)]
/-- what a merge that succeeds has put together -/
theorem merge_form {B T p q : Int} {xs es ys : List Ent} (h : mergeF B T p q xs es = (0, false, ys)) :
    mayLog B T xs = true ∧ inb 0 1099511627776 p = true ∧ inb 0 1099511627775 q = true ∧ runs es p q = true ∧ mayLog B T ys = true ∧ B ≤ mgP B p ∧ mgP B p ≤ B + ys.length ∧ termI B T ys (mgP B p) = mgQ B T p q ∧
      ∀ (r : Nat) (hr : r < (mgCut B p es).length), mgP B p + r < B + ys.length ∧ ∃ y, ys[(mgP B p + r - B).toNat]? = some y ∧ y.t = (mgCut B p es)[r].t ∧ y.i = (mgCut B p es)[r].i := by
  unfold mergeF at h
  split at h
  · rename_i hv
    obtain ⟨hm, hp, hq, hr⟩ := hv
    split at h
    · simp at h
    · rename_i hn
      obtain ⟨hl, hB0, hB1, hx⟩ := may_last hm
      have hPL : mgP B p ≤ B + xs.length := Int.not_lt.1 fun h0 => hn (.inl h0)
      have hPQ : termI B T xs (mgP B p) = mgQ B T p q := Classical.byContradiction fun h0 => hn (.inr h0)
      have hBP : B ≤ mgP B p := by unfold mgP; split <;> omega
      obtain ⟨t, hrun⟩ := runs_cut (B := B) hB0 hr hq
      obtain ⟨d, hd1, hd2, hd3⟩ := mgSkip_drop (B := B) (T := T) (xs := xs) (mgCut B p es)
      have hxr : runs xs B T = true := by simp only [mayLog, Bool.and_eq_true] at hm; exact hm.2
      generalize mgCut B p es = e1 at *
      generalize mgP B p = P at *
      rw [hd2] at h
      unfold mg2 at h
      have hget := runs_get e1 P t hrun
      have hxget := runs_get xs B T hxr
      have hidx : ∃ k, mgIdx B xs (e1.drop d) = k ∧ k ≤ xs.length ∧ P ≤ B + k ∧ (d < e1.length → P + d = B + k) ∧ (∀ r, r < e1.length → r < d → P + r < B + k) := by
        by_cases hde : d < e1.length
        · have hx2 := hget d hde
          refine ⟨_, rfl, ?_⟩
          rw [List.drop_eq_getElem_cons hde]
          show (e1[d].i - 1 - B).toNat ≤ _ ∧ _
          have h4 : P + d ≤ B + xs.length := by
            rcases Nat.eq_zero_or_pos d with h0 | h0
            · subst h0; omega
            · have h5 := (hd3 (d - 1) (by omega) (by omega)).1
              rw [hget (d - 1) (by omega)] at h5
              omega
          have hk : ((e1[d].i - 1 - B).toNat : Int) = P + d - B := by omega
          exact ⟨by omega, by show P ≤ B + (((e1[d].i - 1 - B).toNat : Nat) : Int); omega, fun _ => by show P + d = B + (((e1[d].i - 1 - B).toNat : Nat) : Int); omega, fun r _ _ => by show P + r < B + (((e1[d].i - 1 - B).toNat : Nat) : Int); omega⟩
        · rw [List.drop_eq_nil_of_le (by omega)]
          refine ⟨xs.length, rfl, Nat.le_refl _, hPL, fun h => absurd h hde, fun r hr hrd => ?_⟩
          have h5 := (hd3 r hr hrd).1
          rw [hget r hr] at h5
          omega
      obtain ⟨k, hk, hkl, hPk, hdk, hrk⟩ := hidx
      rw [hk] at h
      split at h
      · simp at h
      · split at h
        · rename_i hmay
          simp only [Prod.mk.injEq, true_and] at h
          subst h
          have hlen : (xs.take k ++ e1.drop d).length = k + (e1.length - d) := by simp; omega
          refine ⟨hm, hp, hq, hr, hmay, hBP, by rw [hlen]; omega, (termI_take hkl hBP hPk).trans hPQ, fun r hr => ?_⟩
          by_cases hrd : r < d
          · have h6 := hrk r hr hrd
            obtain ⟨h7, h8⟩ := hd3 r hr hrd
            rw [hget r hr] at h7 h8
            refine ⟨by rw [hlen]; omega, xs[(P + r - B).toNat]'(by omega), ?_, ?_, ?_⟩
            · rw [List.getElem?_append_left (by simp; omega), List.getElem?_take, if_pos (by omega), List.getElem?_eq_getElem]
            · rw [← h8, show P + 1 + (r : Int) = B + 1 + (((P + r - B).toNat : Nat) : Int) by omega, termI_at]
            · rw [hxget, hget]; omega
          · have h6 := hdk (by omega)
            refine ⟨by rw [hlen]; omega, e1[r], ?_, rfl, rfl⟩
            rw [List.getElem?_append_right (by simp; omega), List.getElem?_drop]
            have : d + ((P + r - B).toNat - (xs.take k).length) = r := by simp; omega
            rw [this, List.getElem?_eq_getElem hr]
        · simp at h
  · simp at h
theorem mg2_nil {B T : Int} {ys : List Ent} (hm : mayLog B T ys = true) : mg2 B T ys [] = (0, false, ys) := by
  obtain ⟨_, _, _, hx⟩ := may_last hm
  unfold mg2
  show (if 512 < ys.length + ([] : List Ent).length then _ else if mayLog B T (ys.take ys.length ++ []) = true then (0, false, ys.take ys.length ++ []) else _) = _
  rw [if_neg (by simp; omega), List.take_length, List.append_nil, if_pos hm]
theorem merge_again {B T p q : Int} {xs es ys : List Ent} (h : mergeF B T p q xs es = (0, false, ys)) : mergeF B T p q ys es = (0, false, ys) := by
  obtain ⟨_, hp, hq, hr, hm, hBP, hPL, hPQ, hat⟩ := merge_form h
  obtain ⟨t, hrun⟩ := runs_cut (B := B) (may_last hm).2.1 hr hq
  unfold mergeF
  rw [if_pos ⟨hm, hp, hq, hr⟩, if_neg (fun h0 => h0.elim (fun h1 => by omega) (fun h1 => h1 hPQ)), mgSkip_all, mg2_nil hm]
  intro e he
  obtain ⟨r, hrl, rfl⟩ := List.mem_iff_getElem.1 he
  obtain ⟨h1, y, h2, h3, h4⟩ := hat r hrl
  have h5 := runs_get _ _ _ hrun r hrl
  obtain ⟨h6, h7⟩ := List.getElem?_eq_some_iff.1 h2
  refine ⟨by omega, ?_⟩
  rw [← h3, ← h7, h5, show mgP B p + 1 + (r : Int) = B + 1 + (((mgP B p + r - B).toNat : Nat) : Int) by omega, termI_at]
theorem merge_own {B T : Int} {xs : List Ent} (hm : mayLog B T xs = true) : mergeF B T B T xs xs = (0, false, xs) := by
  obtain ⟨hl, hB0, hB1, hx⟩ := may_last hm
  have hxr : runs xs B T = true := by simp only [mayLog, Bool.and_eq_true] at hm; exact hm.2
  have hT : inb 0 1099511627775 T = true := by simp only [mayLog, Bool.and_eq_true] at hm; exact hm.1.1.2
  have eP : mgP B B = B := by unfold mgP; rw [if_neg (by omega)]
  have eQ : mgQ B T B T = T := by unfold mgQ; rw [if_neg (by omega)]
  have eC : mgCut B B xs = xs := by unfold mgCut; rw [if_neg (by omega)]
  have hTT : termI B T xs B = T := by unfold termI; rw [if_pos rfl]
  unfold mergeF
  rw [if_pos ⟨hm, inb_mk ⟨by omega, by omega⟩, hT, hxr⟩, eP, eQ, eC, if_neg (fun h0 => h0.elim (fun h1 => by omega) (fun h1 => h1 hTT)), mgSkip_all, mg2_nil hm]
  intro e he
  obtain ⟨r, hrl, rfl⟩ := List.mem_iff_getElem.1 he
  have h5 := runs_get _ _ _ hxr r hrl
  refine ⟨by omega, ?_⟩
  rw [h5, termI_at]
/-- every entry that was asked for above the base stands in the log -/
theorem merge_has {B T p q : Int} {xs es ys : List Ent} (h : mergeF B T p q xs es = (0, false, ys)) (j : Nat) (hj : j < es.length) (hB : B < es[j].i) :
    0 ≤ es[j].i - B - 1 ∧ ∃ (h : (es[j].i - B - 1).toNat < ys.length), ys[(es[j].i - B - 1).toNat].t = es[j].t ∧ ys[(es[j].i - B - 1).toNat].i = es[j].i := by
  obtain ⟨_, hp, hq, hr, hm, hBP, hPL, hPQ, hat⟩ := merge_form h
  have hi := runs_get es p q hr j hj
  refine ⟨by omega, ?_⟩
  by_cases hpB : p < B
  · have e1 : mgP B p = B := by unfold mgP; rw [if_pos hpB]
    have e2 : mgCut B p es = es.drop (B - p).toNat := by unfold mgCut; rw [if_pos hpB, show min (B - p) (es.length : Int) = B - p by omega]
    rw [e1] at hat
    obtain ⟨r, hr⟩ : ∃ r, j = (B - p).toNat + r := ⟨j - (B - p).toNat, by omega⟩
    subst hr
    have hlt : r < (mgCut B p es).length := by rw [e2, List.length_drop]; omega
    obtain ⟨h1, y, h2, h3, h4⟩ := hat r hlt
    have h5 : (mgCut B p es)[r] = es[(B - p).toNat + r] := by simp only [e2, List.getElem_drop]
    rw [h5] at h3 h4
    rw [show (B + (r : Int) - B).toNat = (es[(B - p).toNat + r].i - B - 1).toNat by omega] at h2
    obtain ⟨h6, h7⟩ := List.getElem?_eq_some_iff.1 h2
    exact ⟨h6, by rw [h7, h3], by rw [h7, h4]⟩
  · have e1 : mgP B p = p := by unfold mgP; rw [if_neg hpB]
    have e2 : mgCut B p es = es := by unfold mgCut; rw [if_neg hpB]
    rw [e1] at hat
    have hlt : j < (mgCut B p es).length := by rw [e2]; exact hj
    obtain ⟨h1, y, h2, h3, h4⟩ := hat j hlt
    have h5 : (mgCut B p es)[j] = es[j] := by simp only [e2]
    rw [h5] at h3 h4
    rw [show (p + (j : Int) - B).toNat = (es[j].i - B - 1).toNat by omega] at h2
    obtain ⟨h6, h7⟩ := List.getElem?_eq_some_iff.1 h2
    exact ⟨h6, by rw [h7, h3], by rw [h7, h4]⟩
theorem heavy_rt (B T I M N : Int) (A E : Option Addr) (n c m d : Nat) (xs es : List Ent) (w : World) (h : Ents w (.slice A n c) xs) (he : Ents w (.slice E m d) es) (hok : ∀ e ∈ xs, e.Ok) (hlen : xs.length * 32 ≤ 140737488351232) (hok2 : ∀ e ∈ es, e.Ok) (hlen2 : es.length * 32 ≤ 140737488351232) :
    Rt Try.prog 12 [.agg #[.int .i64 B, .int .i64 T, .slice A n c, .int .i64 I, .int .i64 M, .slice E m d, .int .i64 N]] w fun v w' => ∃ b : Bool, v = .bool b ∧ (b = false → xs.length ≤ 600 ∧ es.length ≤ 600) ∧ From w w' :=
  Calls.mono (heavy_any B T I M N _ _ xs es w h he hok hlen hok2 hlen2) fun e w' ⟨b, he, h1, h2⟩ => ⟨.bool b, he, b, rfl, h1, h2⟩
/-- a merge's answer as its caller holds it -/
theorem merge_rt2 (B T p q : Int) (A U : Option Addr) (n m cA cU : Nat) (xs es : List Ent) (w : World) (h : Ents w (.slice A n cA) xs) (he : Ents w (.slice U m cU) es) (hel : es.length ≤ 400000000000) :
    Rt Try.prog 36 [.agg #[.int .i64 B, .int .i64 T, .slice A n cA], .int .i64 p, .int .i64 q, .slice U m cU] w fun v w' => ∃ (X Y : Int) (A' : Option Addr) (k c' : Nat) (miss : Bool) (e : Int) (ys : List Ent), v = .tuple #[.agg #[.int .i64 X, .int .i64 Y, .slice A' k c'], .bool miss, .int .i64 e] ∧
      mergeF B T p q xs es = (e, miss, ys) ∧ (e = 0 → B = X ∧ T = Y ∧ k = ys.length ∧ Ents w' (.slice A' ys.length c') ys) ∧ From w w' := by
  obtain ⟨rfl, _⟩ := h.len
  obtain ⟨rfl, _⟩ := he.len
  refine Rt.mono (merge_rt B T p q A U cA cU xs es w h he hel) fun v w' ⟨⟨X, Y, A', m, c, hv, h1, h2⟩, hF⟩ => ?_
  refine ⟨X, Y, A', m, c, _, _, _, hv, rfl, fun h0 => ?_, hF⟩
  obtain ⟨g1, g2, g3, g4⟩ := h2 h0
  subst g3
  exact ⟨g1.symm, g2.symm, rfl, Ents.of_own g4 rfl⟩
theorem merge_is (B T p q : Int) (A U : Option Addr) (n m cA cU : Nat) (xs es ys : List Ent) (w : World) (h : Ents w (.slice A n cA) xs) (he : Ents w (.slice U m cU) es) (hel : es.length ≤ 400000000000) (hr : mergeF B T p q xs es = (0, false, ys)) :
    Rt Try.prog 36 [.agg #[.int .i64 B, .int .i64 T, .slice A n cA], .int .i64 p, .int .i64 q, .slice U m cU] w fun v w' => ∃ (A' : Option Addr) (c' : Nat), v = .tuple #[.agg #[.int .i64 B, .int .i64 T, .slice A' ys.length c'], .bool false, .int .i64 0] ∧ Ents w' (.slice A' ys.length c') ys ∧ From w w' := by
  refine Rt.mono (merge_rt2 B T p q A U n m cA cU xs es w h he hel) fun v w' ⟨X, Y, A', k, c', miss, e, ys', hv, h1, h2, hF⟩ => ?_
  rw [hr] at h1
  simp only [Prod.mk.injEq] at h1
  obtain ⟨rfl, rfl, rfl⟩ := h1
  obtain ⟨rfl, rfl, rfl, h3⟩ := h2 rfl
  exact ⟨A', c', hv, h3, hF⟩
theorem check_ok (B T : Int) (A : Option Addr) (n c : Nat) (xs : List Ent) (w : World) (h : Ents w (.slice A n c) xs) (hm : mayLog B T xs = true) :
    Rt Try.prog 24 [.agg #[.int .i64 B, .int .i64 T, .slice A n c]] w fun v w' => v = .int .i64 0 ∧ From w w' :=
  Rt.mono (Rt.of (check_any B T _ xs w h)) fun v w' h => ⟨by rw [h.1]; unfold chk; rw [if_pos hm], h.2⟩
theorem Ents.elem {w : World} {A : Option Addr} {n c : Nat} {xs : List Ent} (h : Ents w (.slice A n c) xs) (h0 : 0 < xs.length) : ∃ b o, A = some ⟨b, o, none⟩ ∧ ∀ (j : Nat) (hj : j < xs.length), w.rangeAt b (o + j * 3) [.int .i64 xs[j].i, .int .i64 xs[j].t, .string xs[j].d] := by
  obtain ⟨A', c', hv, _, _, _, hp⟩ := h
  simp only [Value.slice.injEq] at hv
  obtain ⟨rfl, _, _⟩ := hv
  obtain ⟨b, o, hA, _, hc⟩ := hp h0
  exact ⟨b, o, hA, fun j hj => range3 (hc j hj).1 (hc j hj).2.1 (hc j hj).2.2⟩
theorem Blk.pre3 {w : World} {g : Nat} {t : TypeId} {a b c : Value} {r : List Value} (h : Blk w g t (a :: b :: c :: r).toArray) : w.rangeAt g 0 [a, b, c] := range3 (h.rd 0 rfl) (h.rd 1 rfl) (h.rd 2 rfl)
set_option maxRecDepth 100000 in
set_option maxHeartbeats 3000000 in
theorem again_law (A : Option Addr) (n cap : Nat) (w : World) (hn : n ≤ 9223372036854775807) (hE : Asks w A n) :
    Rt Try.prog 4 [.slice A n cap] w (fun v w' => v = .bool true ∧ From w w') := by
  refine enter (n := 186) Try.func4 rfl rfl rfl ?_
  refine cd_seq ?_
  refine cd_region ?_
  refine st_val (ro_assign (v := .bool _) rfl) ?_
  refine st_nil ?_
  refine nx_then ?_
  refine cd_seq ?_
  refine cd_seq ?_
  refine cd_region ?_
  refine st_val (ro_assign (v := .int _ _) rfl) ?_
  refine st_nil ?_
  refine nx_then ?_
  refine cd_block ?_
  refine cd_loop (G := Nat) [2, 4, 5, 6, 7, 8, 9, 10, 11, 12, 13, 14, 15, 16, 17, 18, 19, 20, 21, 22, 23, 24, 25, 26, 27, 28, 29, 30, 31, 32, 33, 34, 35, 36, 37, 38, 39, 40, 41, 42, 43, 44, 45, 46, 47, 48, 49, 50, 51, 52, 53, 54, 55, 56, 57, 58, 59, 60, 61, 62, 63, 64, 65, 66, 67, 68, 69, 70, 71, 72, 73, 74, 75, 76, 77, 78, 79, 80, 81, 82, 83, 84, 85, 86, 87, 88, 89, 90, 91, 92, 93, 94, 95, 96, 97, 98, 99, 100, 101, 102, 103, 104, 105, 106, 107, 108, 109, 110, 111, 112, 113, 114, 115, 116, 117, 118, 119, 120, 121, 122, 123, 124, 125, 126, 127, 128, 129, 130, 131, 132, 133, 134, 135, 136, 137, 138, 139, 140, 141, 142, 143, 144, 145, 146, 147, 148, 149, 150, 151, 152, 153, 154, 155, 156, 157, 158, 159, 160, 161, 162, 163, 164, 165, 166, 167, 168, 169, 170, 171, 172, 173, 174, 175, 176, 177, 178, 179, 180, 181, 182, 183, 184] (fun k => [(3, .int .i64 (k : Nat))]) (fun k w' => k ≤ n ∧ From w w') (fun k => n - k) (0) ⟨rfl, trivial⟩ ?_ ?_
  · exact ⟨Nat.zero_le _, From.rfl_⟩
  rintro k ρ1 w1 ⟨hk, hB⟩
  refine cd_seq ?_
  refine cd_seq ?_
  refine cd_region ?_
  refine st_val (ro_move (v := .int _ _) rfl) ?_
  refine st_val (ro_move (v := .slice _ _ _) rfl) ?_
  refine st_val (ro_len EntAgain_l22 rfl) ?_
  refine st_val (ro_lss rfl rfl) ?_
  refine st_val (ro_move (v := .bool _) rfl) ?_
  refine st_split (t := 19) rfl (fun Q2 => ?_) (fun Q2 => ?_)
  · (try first | replace Q2 := bn_t Q2 | replace Q2 := bn_f Q2)
    (try first | replace Q2 := bx_t Q2 | replace Q2 := bx_f Q2 | replace Q2 := be_t Q2 | replace Q2 := be_f Q2 | replace Q2 := of_decide_eq_true Q2 | replace Q2 := of_decide_eq_false Q2)
    first
     | (exfalso; first | first | omega | (simp at *; done) | contradiction | (cases Q2; done))
     | skip
       refine st_unguard rfl ?_
       refine st_val (ro_move (v := .int _ _) rfl) ?_
       refine st_unguard rfl ?_
       refine st_val (ro_lss rfl rfl) ?_
       refine st_val (ro_pickT (v := .bool _) rfl rfl) ?_
       refine st_nil ?_
       refine nx_then ?_
       refine cd_cond rfl (fun Q3 => ?_) (fun Q3 => ?_)
       · (try first | replace Q3 := bn_t Q3 | replace Q3 := bn_f Q3)
         (try first | replace Q3 := bx_t Q3 | replace Q3 := bx_f Q3 | replace Q3 := be_t Q3 | replace Q3 := be_f Q3 | replace Q3 := of_decide_eq_true Q3 | replace Q3 := of_decide_eq_false Q3)
         obtain ⟨b, o, rfl, hbl, hc⟩ := hE (by omega)
         obtain ⟨B, T, I, M, N, V, E, xs, es, hat⟩ := hc k (by omega)
         obtain ⟨A1, c1, rfl, hh1, hh2, hh3, -⟩ := id hat.log
         obtain ⟨A2, c2, rfl, -⟩ := id hat.ent
         first
          | (exfalso; first | first | omega | (simp at *; done) | contradiction | (cases Q3; done))
          | skip
            refine cd_skip ?_
            refine nx_then ?_
            refine cd_seq ?_
            refine cd_block ?_
            refine cd_seq ?_
            refine cd_region ?_
            refine st_val (ro_move (v := .slice _ _ _) rfl) ?_
            refine st_val (ro_move (v := .int _ _) rfl) ?_
            refine st_val (ro_indexAddrN EntAgain_e22 rfl rfl (by omega)) ?_
            refine st_val (ro_loadA (cs := [_, _, _, _, _, _, _]) EntAgain_g27 EntAgain_z27 rfl (by first | exact rangeF hB hat.all | exact cellF hB hat.c2)) ?_
            refine st_alloc EntAgain_o27 ?_
            intro b4 w4 E4 hb4 hk4
            have hg4 : w.heap.size ≤ b4 := by rw [hb4]; exact (hB).size
            refine st_putW (vs := [_, _, _, _, _, _, _]) EntAgain_z27 rfl rfl (by simp [Value.oneCell']) (hk4) rfl ?_
            intro w5 O4 P4
            refine st_nil ?_
            refine nx_then ?_
            refine cd_seq ?_
            refine cd_seq ?_
            refine cd_region ?_
            refine st_val (ro_loadA (cs := [_, _, _, _, _, _, _]) EntAgain_g27 EntAgain_z27 rfl (by first | (first | exact (P4.from_ From.rfl_).whole | exact (P4.from_ From.rfl_).rd 0 rfl | exact (P4.from_ From.rfl_).rd 1 rfl | exact (P4.from_ From.rfl_).rd 2 rfl | exact (P4.from_ From.rfl_).rd 3 rfl | exact (P4.from_ From.rfl_).rd 4 rfl | exact (P4.from_ From.rfl_).rd 5 rfl | exact (P4.from_ From.rfl_).pre3) | (first | exact (P7.from_ From.rfl_).whole | exact (P7.from_ From.rfl_).rd 0 rfl | exact (P7.from_ From.rfl_).rd 1 rfl | exact (P7.from_ From.rfl_).rd 2 rfl))) ?_
            refine st_call EntAgain_k12 (heavy_rt B T I M N A1 A2 _ c1 _ c2 xs es _ (hat.log.from_ ((hB.next E4).only O4 (hg4))) (hat.ent.from_ ((hB.next E4).only O4 (hg4))) hat.lok hat.llen hat.eok hat.elen) ?_
            rintro v30 w6 ⟨b30, rfl, hhv, E30⟩
            refine st_val (ro_move (v := .bool _) rfl) ?_
            refine st_split (t := 31) rfl (fun Q7 => ?_) (fun Q7 => ?_)
            · (try first | replace Q7 := bn_t Q7 | replace Q7 := bn_f Q7)
              (try first | replace Q7 := bx_t Q7 | replace Q7 := bx_f Q7 | replace Q7 := be_t Q7 | replace Q7 := be_f Q7 | replace Q7 := of_decide_eq_true Q7 | replace Q7 := of_decide_eq_false Q7)
              first
               | (exfalso; first | first | omega | (simp at *; done) | contradiction | (cases Q7; done))
               | skip
                 refine st_gno rfl rfl ?_
                 refine st_gno rfl rfl ?_
                 refine st_gno rfl rfl ?_
                 refine st_gno rfl rfl ?_
                 refine st_gno rfl rfl ?_
                 refine st_val (ro_pickT (v := .bool _) rfl rfl) ?_
                 refine st_nil ?_
                 refine nx_then ?_
                 refine cd_condT rfl ?_
                 refine cd_seq ?_
                 refine cd_region ?_
                 refine st_val (ro_assign (v := .bool _) rfl) ?_
                 refine st_nil ?_
                 refine nx_then ?_
                 refine cd_ret ?_
                 refine rt_then ?_
                 refine rt_block ?_
                 refine rt_then ?_
                 refine rt_then ?_
                 refine rt_block ?_
                 refine rt_then ?_
                 refine res1 (v := .bool _) rfl rfl ?_
                 exact ⟨rfl, (((hB.next E4).only O4 (hg4)).next E30)⟩
            · (try first | replace Q7 := bn_t Q7 | replace Q7 := bn_f Q7)
              (try first | replace Q7 := bx_t Q7 | replace Q7 := bx_f Q7 | replace Q7 := be_t Q7 | replace Q7 := be_f Q7 | replace Q7 := of_decide_eq_true Q7 | replace Q7 := of_decide_eq_false Q7)
              obtain ⟨hx6, he6⟩ := hhv Q7
              first
               | (exfalso; first | first | omega | (simp at *; done) | contradiction | (cases Q7; done))
               | skip
                 refine st_unguard rfl ?_
                 refine st_val (ro_fieldAddr EntAgain_f27_0 rfl) ?_
                 refine st_unguard rfl ?_
                 refine st_val (ro_fieldAddr EntAgain_f25_2 rfl) ?_
                 refine st_unguard rfl ?_
                 refine st_val (ro_load EntAgain_g23 rfl (by first | (first | exact (P4.from_ (From.rfl_.next E30)).whole | exact (P4.from_ (From.rfl_.next E30)).rd 0 rfl | exact (P4.from_ (From.rfl_.next E30)).rd 1 rfl | exact (P4.from_ (From.rfl_.next E30)).rd 2 rfl | exact (P4.from_ (From.rfl_.next E30)).rd 3 rfl | exact (P4.from_ (From.rfl_.next E30)).rd 4 rfl | exact (P4.from_ (From.rfl_.next E30)).rd 5 rfl | exact (P4.from_ (From.rfl_.next E30)).pre3) | (first | exact (P7.from_ (From.rfl_.next E30)).whole | exact (P7.from_ (From.rfl_.next E30)).rd 0 rfl | exact (P7.from_ (From.rfl_.next E30)).rd 1 rfl | exact (P7.from_ (From.rfl_.next E30)).rd 2 rfl))) ?_
                 refine st_unguard rfl ?_
                 refine st_val (ro_len EntAgain_l23 rfl) ?_
                 refine st_unguard rfl ?_
                 refine st_val (ro_gtr rfl rfl) ?_
                 refine st_val (ro_pickF (v := .bool _) rfl rfl) ?_
                 refine st_nil ?_
                 refine nx_then ?_
                 refine cd_cond rfl (fun Q8 => ?_) (fun Q8 => ?_)
                 · (try first | replace Q8 := bn_t Q8 | replace Q8 := bn_f Q8)
                   (try first | replace Q8 := bx_t Q8 | replace Q8 := bx_f Q8 | replace Q8 := be_t Q8 | replace Q8 := be_f Q8 | replace Q8 := of_decide_eq_true Q8 | replace Q8 := of_decide_eq_false Q8)
                   first
                    | (exfalso; first | first | omega | (simp at *; done) | contradiction | (cases Q8; done))
                    | skip
                      refine cd_seq ?_
                      refine cd_region ?_
                      refine st_val (ro_assign (v := .bool _) rfl) ?_
                      refine st_nil ?_
                      refine nx_then ?_
                      refine cd_ret ?_
                      refine rt_then ?_
                      refine rt_block ?_
                      refine rt_then ?_
                      refine rt_then ?_
                      refine rt_block ?_
                      refine rt_then ?_
                      refine res1 (v := .bool _) rfl rfl ?_
                      exact ⟨rfl, (((hB.next E4).only O4 (hg4)).next E30)⟩
                 · (try first | replace Q8 := bn_t Q8 | replace Q8 := bn_f Q8)
                   (try first | replace Q8 := bx_t Q8 | replace Q8 := bx_f Q8 | replace Q8 := be_t Q8 | replace Q8 := be_f Q8 | replace Q8 := of_decide_eq_true Q8 | replace Q8 := of_decide_eq_false Q8)
                   first
                    | (exfalso; first | first | omega | (simp at *; done) | contradiction | (cases Q8; done))
                    | skip
                      refine cd_skip ?_
                      refine nx_then ?_
                      refine cd_seq ?_
                      refine cd_region ?_
                      refine st_val (ro_fieldAddr EntAgain_f27_0 rfl) ?_
                      refine st_val (ro_loadA (cs := [_, _, _]) EntAgain_g25 EntAgain_z25 rfl (by first | (first | exact (P4.from_ (From.rfl_.next E30)).whole | exact (P4.from_ (From.rfl_.next E30)).rd 0 rfl | exact (P4.from_ (From.rfl_.next E30)).rd 1 rfl | exact (P4.from_ (From.rfl_.next E30)).rd 2 rfl | exact (P4.from_ (From.rfl_.next E30)).rd 3 rfl | exact (P4.from_ (From.rfl_.next E30)).rd 4 rfl | exact (P4.from_ (From.rfl_.next E30)).rd 5 rfl | exact (P4.from_ (From.rfl_.next E30)).pre3) | (first | exact (P7.from_ (From.rfl_.next E30)).whole | exact (P7.from_ (From.rfl_.next E30)).rd 0 rfl | exact (P7.from_ (From.rfl_.next E30)).rd 1 rfl | exact (P7.from_ (From.rfl_.next E30)).rd 2 rfl))) ?_
                      refine st_val (ro_fieldAddr EntAgain_f27_1 rfl) ?_
                      refine st_val (ro_load EntAgain_g3 rfl (by first | (first | exact (P4.from_ (From.rfl_.next E30)).whole | exact (P4.from_ (From.rfl_.next E30)).rd 0 rfl | exact (P4.from_ (From.rfl_.next E30)).rd 1 rfl | exact (P4.from_ (From.rfl_.next E30)).rd 2 rfl | exact (P4.from_ (From.rfl_.next E30)).rd 3 rfl | exact (P4.from_ (From.rfl_.next E30)).rd 4 rfl | exact (P4.from_ (From.rfl_.next E30)).rd 5 rfl | exact (P4.from_ (From.rfl_.next E30)).pre3) | (first | exact (P7.from_ (From.rfl_.next E30)).whole | exact (P7.from_ (From.rfl_.next E30)).rd 0 rfl | exact (P7.from_ (From.rfl_.next E30)).rd 1 rfl | exact (P7.from_ (From.rfl_.next E30)).rd 2 rfl))) ?_
                      refine st_val (ro_fieldAddr EntAgain_f27_2 rfl) ?_
                      refine st_val (ro_load EntAgain_g3 rfl (by first | (first | exact (P4.from_ (From.rfl_.next E30)).whole | exact (P4.from_ (From.rfl_.next E30)).rd 0 rfl | exact (P4.from_ (From.rfl_.next E30)).rd 1 rfl | exact (P4.from_ (From.rfl_.next E30)).rd 2 rfl | exact (P4.from_ (From.rfl_.next E30)).rd 3 rfl | exact (P4.from_ (From.rfl_.next E30)).rd 4 rfl | exact (P4.from_ (From.rfl_.next E30)).rd 5 rfl | exact (P4.from_ (From.rfl_.next E30)).pre3) | (first | exact (P7.from_ (From.rfl_.next E30)).whole | exact (P7.from_ (From.rfl_.next E30)).rd 0 rfl | exact (P7.from_ (From.rfl_.next E30)).rd 1 rfl | exact (P7.from_ (From.rfl_.next E30)).rd 2 rfl))) ?_
                      refine st_val (ro_fieldAddr EntAgain_f27_3 rfl) ?_
                      refine st_val (ro_load EntAgain_g23 rfl (by first | (first | exact (P4.from_ (From.rfl_.next E30)).whole | exact (P4.from_ (From.rfl_.next E30)).rd 0 rfl | exact (P4.from_ (From.rfl_.next E30)).rd 1 rfl | exact (P4.from_ (From.rfl_.next E30)).rd 2 rfl | exact (P4.from_ (From.rfl_.next E30)).rd 3 rfl | exact (P4.from_ (From.rfl_.next E30)).rd 4 rfl | exact (P4.from_ (From.rfl_.next E30)).rd 5 rfl | exact (P4.from_ (From.rfl_.next E30)).pre3) | (first | exact (P7.from_ (From.rfl_.next E30)).whole | exact (P7.from_ (From.rfl_.next E30)).rd 0 rfl | exact (P7.from_ (From.rfl_.next E30)).rd 1 rfl | exact (P7.from_ (From.rfl_.next E30)).rd 2 rfl))) ?_
                      refine st_call EntAgain_k36 (merge_rt2 B T I M A1 A2 _ _ c1 c2 xs es _ (hat.log.from_ (((hB.next E4).only O4 (hg4)).next E30)) (hat.ent.from_ (((hB.next E4).only O4 (hg4)).next E30)) (by omega)) ?_
                      rintro v47 w9 ⟨X5, Y5, A5, k5, c5, miss47, e47, ys, rfl, hr47, hg47, E47⟩
                      refine st_val (ro_move (v := .tuple _) rfl) ?_
                      refine st_val (ro_extract rfl rfl) ?_
                      refine st_val (ro_extract rfl rfl) ?_
                      refine st_val (ro_extract rfl rfl) ?_
                      refine st_alloc EntAgain_o25 ?_
                      intro b5 w10 E5 hb5 hk5
                      have hg5 : w.heap.size ≤ b5 := by rw [hb5]; exact (((((hB.next E4).only O4 (hg4)).next E30).next E47)).size
                      have hl45 := (P4.from_ (From.rfl_.next E30 |>.next E47)).lt
                      refine st_putW (vs := [_, _, _]) EntAgain_z25 rfl rfl (by simp [Value.oneCell']) (hk5) rfl ?_
                      intro w11 O7 P7
                      replace P4 := (P4.from_ (From.rfl_.next E30 |>.next E47 |>.next E5)).only O7 (by omega)
                      refine st_val (ro_assign (v := .bool _) rfl) ?_
                      refine st_val (ro_assign (v := .int _ _) rfl) ?_
                      refine st_nil ?_
                      refine nx_then ?_
                      refine cd_seq ?_
                      refine cd_seq ?_
                      refine cd_region ?_
                      refine st_val (ro_move (v := .int _ _) rfl) ?_
                      refine st_call EntAgain_k23 (Rt.of (errnum_any _ _)) ?_
                      rintro v52 w12 ⟨rfl, rfl⟩
                      refine st_val (ro_neq rfl rfl) ?_
                      refine st_val (ro_move (v := .bool _) rfl) ?_
                      refine st_split (t := 54) rfl (fun Q13 => ?_) (fun Q13 => ?_)
                      · (try first | replace Q13 := bn_t Q13 | replace Q13 := bn_f Q13)
                        (try first | replace Q13 := bx_t Q13 | replace Q13 := bx_f Q13 | replace Q13 := be_t Q13 | replace Q13 := be_f Q13 | replace Q13 := of_decide_eq_true Q13 | replace Q13 := of_decide_eq_false Q13)
                        first
                         | (exfalso; first | first | omega | (simp at *; done) | contradiction | (cases Q13; done))
                         | skip
                           refine st_gno rfl rfl ?_
                           refine st_val (ro_pickT (v := .bool _) rfl rfl) ?_
                           refine st_nil ?_
                           refine nx_then ?_
                           refine cd_condT rfl ?_
                           refine cd_exit ?_
                           refine ex_then ?_
                           refine ex_block ?_
                           refine nx_then ?_
                           refine cd_region ?_
                           refine st_val (ro_move (v := .int _ _) rfl) ?_
                           refine st_val (ro_addN (b := 1) rfl rfl (by omega)) ?_
                           refine st_val (ro_assign (v := .int _ _) rfl) ?_
                           refine st_nil ?_
                           refine nx_cut (k + 1) ⟨(by first | rfl | (refine int_eq ?_; omega)), trivial⟩ (by (iterate 233 refine agr_cons rfl ?_); exact agr_rfl) ⟨?_, ?_⟩
                           · exact ⟨by omega, ((((((hB.next E4).only O4 (hg4)).next E30).next E47).next E5).only O7 (hg5))⟩
                           · omega
                      · (try first | replace Q13 := bn_t Q13 | replace Q13 := bn_f Q13)
                        (try first | replace Q13 := bx_t Q13 | replace Q13 := bx_f Q13 | replace Q13 := be_t Q13 | replace Q13 := be_f Q13 | replace Q13 := of_decide_eq_true Q13 | replace Q13 := of_decide_eq_false Q13)
                        obtain rfl : e47 = 0 := Q13
                        obtain ⟨rfl, rfl, rfl, hys⟩ := hg47 rfl
                        replace hys := hys.from_ (((From.rfl_.next E5).only O7 (by omega)))
                        first
                         | (exfalso; first | first | omega | (simp at *; done) | contradiction | (cases Q13; done))
                         | skip
                           refine st_unguard rfl ?_
                           refine st_val (ro_move (v := .bool _) rfl) ?_
                           refine st_val (ro_pickF (v := .bool _) rfl rfl) ?_
                           refine st_nil ?_
                           refine nx_then ?_
                           refine cd_cond rfl (fun Q14 => ?_) (fun Q14 => ?_)
                           · (try first | replace Q14 := bn_t Q14 | replace Q14 := bn_f Q14)
                             (try first | replace Q14 := bx_t Q14 | replace Q14 := bx_f Q14 | replace Q14 := be_t Q14 | replace Q14 := be_f Q14 | replace Q14 := of_decide_eq_true Q14 | replace Q14 := of_decide_eq_false Q14)
                             first
                              | (exfalso; first | first | omega | (simp at *; done) | contradiction | (cases Q14; done))
                              | skip
                                refine cd_exit ?_
                                refine ex_then ?_
                                refine ex_block ?_
                                refine nx_then ?_
                                refine cd_region ?_
                                refine st_val (ro_move (v := .int _ _) rfl) ?_
                                refine st_val (ro_addN (b := 1) rfl rfl (by omega)) ?_
                                refine st_val (ro_assign (v := .int _ _) rfl) ?_
                                refine st_nil ?_
                                refine nx_cut (k + 1) ⟨(by first | rfl | (refine int_eq ?_; omega)), trivial⟩ (by (iterate 233 refine agr_cons rfl ?_); exact agr_rfl) ⟨?_, ?_⟩
                                · exact ⟨by omega, ((((((hB.next E4).only O4 (hg4)).next E30).next E47).next E5).only O7 (hg5))⟩
                                · omega
                           · (try first | replace Q14 := bn_t Q14 | replace Q14 := bn_f Q14)
                             (try first | replace Q14 := bx_t Q14 | replace Q14 := bx_f Q14 | replace Q14 := be_t Q14 | replace Q14 := be_f Q14 | replace Q14 := of_decide_eq_true Q14 | replace Q14 := of_decide_eq_false Q14)
                             obtain rfl : miss47 = false := Q14
                             obtain ⟨hm, hpI, _, hrI, hmy, _⟩ := merge_form hr47
                             obtain ⟨_, hB0, hB1, hy512⟩ := may_last hmy
                             have hpI2 := inb_true hpI
                             have hag := merge_again hr47
                             first
                              | (exfalso; first | first | omega | (simp at *; done) | contradiction | (cases Q14; done))
                              | skip
                                refine cd_skip ?_
                                refine nx_then ?_
                                refine cd_seq ?_
                                refine cd_region ?_
                                refine st_val (ro_loadA (cs := [_, _, _]) EntAgain_g25 EntAgain_z25 rfl (by first | (first | exact (P4.from_ From.rfl_).whole | exact (P4.from_ From.rfl_).rd 0 rfl | exact (P4.from_ From.rfl_).rd 1 rfl | exact (P4.from_ From.rfl_).rd 2 rfl | exact (P4.from_ From.rfl_).rd 3 rfl | exact (P4.from_ From.rfl_).rd 4 rfl | exact (P4.from_ From.rfl_).rd 5 rfl | exact (P4.from_ From.rfl_).pre3) | (first | exact (P7.from_ From.rfl_).whole | exact (P7.from_ From.rfl_).rd 0 rfl | exact (P7.from_ From.rfl_).rd 1 rfl | exact (P7.from_ From.rfl_).rd 2 rfl))) ?_
                                refine st_val (ro_fieldAddr EntAgain_f27_1 rfl) ?_
                                refine st_val (ro_load EntAgain_g3 rfl (by first | (first | exact (P4.from_ From.rfl_).whole | exact (P4.from_ From.rfl_).rd 0 rfl | exact (P4.from_ From.rfl_).rd 1 rfl | exact (P4.from_ From.rfl_).rd 2 rfl | exact (P4.from_ From.rfl_).rd 3 rfl | exact (P4.from_ From.rfl_).rd 4 rfl | exact (P4.from_ From.rfl_).rd 5 rfl | exact (P4.from_ From.rfl_).pre3) | (first | exact (P7.from_ From.rfl_).whole | exact (P7.from_ From.rfl_).rd 0 rfl | exact (P7.from_ From.rfl_).rd 1 rfl | exact (P7.from_ From.rfl_).rd 2 rfl))) ?_
                                refine st_val (ro_fieldAddr EntAgain_f27_2 rfl) ?_
                                refine st_val (ro_load EntAgain_g3 rfl (by first | (first | exact (P4.from_ From.rfl_).whole | exact (P4.from_ From.rfl_).rd 0 rfl | exact (P4.from_ From.rfl_).rd 1 rfl | exact (P4.from_ From.rfl_).rd 2 rfl | exact (P4.from_ From.rfl_).rd 3 rfl | exact (P4.from_ From.rfl_).rd 4 rfl | exact (P4.from_ From.rfl_).rd 5 rfl | exact (P4.from_ From.rfl_).pre3) | (first | exact (P7.from_ From.rfl_).whole | exact (P7.from_ From.rfl_).rd 0 rfl | exact (P7.from_ From.rfl_).rd 1 rfl | exact (P7.from_ From.rfl_).rd 2 rfl))) ?_
                                refine st_val (ro_fieldAddr EntAgain_f27_3 rfl) ?_
                                refine st_val (ro_load EntAgain_g23 rfl (by first | (first | exact (P4.from_ From.rfl_).whole | exact (P4.from_ From.rfl_).rd 0 rfl | exact (P4.from_ From.rfl_).rd 1 rfl | exact (P4.from_ From.rfl_).rd 2 rfl | exact (P4.from_ From.rfl_).rd 3 rfl | exact (P4.from_ From.rfl_).rd 4 rfl | exact (P4.from_ From.rfl_).rd 5 rfl | exact (P4.from_ From.rfl_).pre3) | (first | exact (P7.from_ From.rfl_).whole | exact (P7.from_ From.rfl_).rd 0 rfl | exact (P7.from_ From.rfl_).rd 1 rfl | exact (P7.from_ From.rfl_).rd 2 rfl))) ?_
                                refine st_call EntAgain_k36 (merge_is B T I M A5 A2 _ _ c5 c2 ys es ys _ (hys.from_ From.rfl_) (hat.ent.from_ ((((((hB.next E4).only O4 (hg4)).next E30).next E47).next E5).only O7 (hg5))) (by omega) hag) ?_
                                rintro v65 w15 ⟨A65, c65, rfl, hy65, E65⟩
                                refine st_val (ro_move (v := .tuple _) rfl) ?_
                                refine st_val (ro_extract rfl rfl) ?_
                                refine st_val (ro_extract rfl rfl) ?_
                                refine st_val (ro_extract rfl rfl) ?_
                                have hl8c := ((From.rfl_.next E65)).size
                                have hl8 := (P4.from_ (From.rfl_.next E65)).lt
                                have hl8b := (P7.from_ (From.rfl_.next E65)).lt
                                refine st_alloc EntAgain_o25 ?_
                                intro b8 w16 E8 hb8 hk8
                                have hg8 : w.heap.size ≤ b8 := by rw [hb8]; exact ((((((((hB.next E4).only O4 (hg4)).next E30).next E47).next E5).only O7 (hg5)).next E65)).size
                                refine st_putW (vs := [_, _, _]) EntAgain_z25 rfl rfl (by simp [Value.oneCell']) (hk8) rfl ?_
                                intro w17 O9 P9
                                replace P4 := (P4.from_ ((From.rfl_.next E65).next E8)).only O9 (by omega)
                                replace P7 := (P7.from_ ((From.rfl_.next E65).next E8)).only O9 (by omega)
                                replace hys := hys.from_ (((From.rfl_.next E65).next E8).only O9 (by omega))
                                refine st_val (ro_assign (v := .bool _) rfl) ?_
                                refine st_val (ro_assign (v := .int _ _) rfl) ?_
                                refine st_nil ?_
                                refine nx_then ?_
                                refine cd_seq ?_
                                refine cd_seq ?_
                                refine cd_region ?_
                                refine st_val (ro_move (v := .int _ _) rfl) ?_
                                refine st_call EntAgain_k23 (Rt.of (errnum_any _ _)) ?_
                                rintro v70 w18 ⟨rfl, rfl⟩
                                refine st_val (ro_neq rfl rfl) ?_
                                refine st_val (ro_move (v := .bool _) rfl) ?_
                                refine st_split (t := 72) rfl (fun Q19 => ?_) (fun Q19 => ?_)
                                · (try first | replace Q19 := bn_t Q19 | replace Q19 := bn_f Q19)
                                  (try first | replace Q19 := bx_t Q19 | replace Q19 := bx_f Q19 | replace Q19 := be_t Q19 | replace Q19 := be_f Q19 | replace Q19 := of_decide_eq_true Q19 | replace Q19 := of_decide_eq_false Q19)
                                  first
                                   | (exfalso; first | first | omega | (simp at *; done) | contradiction | (cases Q19; done))
                                   | skip
                                     refine st_gno rfl rfl ?_
                                     refine st_val (ro_pickT (v := .bool _) rfl rfl) ?_
                                     refine st_val (ro_move (v := .bool _) rfl) ?_
                                     refine st_gno rfl rfl ?_
                                     refine st_gno rfl rfl ?_
                                     refine st_gno rfl rfl ?_
                                     refine st_gno rfl rfl ?_
                                     refine st_val (ro_pickT (v := .bool _) rfl rfl) ?_
                                     refine st_val (ro_move (v := .bool _) rfl) ?_
                                     refine st_gno rfl rfl ?_
                                     refine st_gno rfl rfl ?_
                                     refine st_gno rfl rfl ?_
                                     refine st_gno rfl rfl ?_
                                     refine st_val (ro_pickT (v := .bool _) rfl rfl) ?_
                                     refine st_val (ro_move (v := .bool _) rfl) ?_
                                     refine st_gno rfl rfl ?_
                                     refine st_gno rfl rfl ?_
                                     refine st_gno rfl rfl ?_
                                     refine st_gno rfl rfl ?_
                                     refine st_gno rfl rfl ?_
                                     refine st_gno rfl rfl ?_
                                     refine st_val (ro_pickT (v := .bool _) rfl rfl) ?_
                                     refine st_nil ?_
                                     refine nx_then ?_
                                     refine cd_condT rfl ?_
                                     refine cd_seq ?_
                                     refine cd_region ?_
                                     refine st_val (ro_assign (v := .bool _) rfl) ?_
                                     refine st_nil ?_
                                     refine nx_then ?_
                                     refine cd_ret ?_
                                     refine rt_then ?_
                                     refine rt_block ?_
                                     refine rt_then ?_
                                     refine rt_then ?_
                                     refine rt_block ?_
                                     refine rt_then ?_
                                     refine res1 (v := .bool _) rfl rfl ?_
                                     exact ⟨rfl, (((((((((hB.next E4).only O4 (hg4)).next E30).next E47).next E5).only O7 (hg5)).next E65).next E8).only O9 (hg8))⟩
                                · (try first | replace Q19 := bn_t Q19 | replace Q19 := bn_f Q19)
                                  (try first | replace Q19 := bx_t Q19 | replace Q19 := bx_f Q19 | replace Q19 := be_t Q19 | replace Q19 := be_f Q19 | replace Q19 := of_decide_eq_true Q19 | replace Q19 := of_decide_eq_false Q19)
                                  first
                                   | (exfalso; first | first | omega | (simp at *; done) | contradiction | (cases Q19; done))
                                   | skip
                                     refine st_unguard rfl ?_
                                     refine st_val (ro_move (v := .bool _) rfl) ?_
                                     refine st_val (ro_pickF (v := .bool _) rfl rfl) ?_
                                     refine st_val (ro_move (v := .bool _) rfl) ?_
                                     refine st_split (t := 75) rfl (fun Q20 => ?_) (fun Q20 => ?_)
                                     · (try first | replace Q20 := bn_t Q20 | replace Q20 := bn_f Q20)
                                       (try first | replace Q20 := bx_t Q20 | replace Q20 := bx_f Q20 | replace Q20 := be_t Q20 | replace Q20 := be_f Q20 | replace Q20 := of_decide_eq_true Q20 | replace Q20 := of_decide_eq_false Q20)
                                       first
                                        | (exfalso; first | first | omega | (simp at *; done) | contradiction | (cases Q20; done))
                                        | skip
                                          refine st_gno rfl rfl ?_
                                          refine st_gno rfl rfl ?_
                                          refine st_gno rfl rfl ?_
                                          refine st_gno rfl rfl ?_
                                          refine st_val (ro_pickT (v := .bool _) rfl rfl) ?_
                                          refine st_val (ro_move (v := .bool _) rfl) ?_
                                          refine st_gno rfl rfl ?_
                                          refine st_gno rfl rfl ?_
                                          refine st_gno rfl rfl ?_
                                          refine st_gno rfl rfl ?_
                                          refine st_val (ro_pickT (v := .bool _) rfl rfl) ?_
                                          refine st_val (ro_move (v := .bool _) rfl) ?_
                                          refine st_gno rfl rfl ?_
                                          refine st_gno rfl rfl ?_
                                          refine st_gno rfl rfl ?_
                                          refine st_gno rfl rfl ?_
                                          refine st_gno rfl rfl ?_
                                          refine st_gno rfl rfl ?_
                                          refine st_val (ro_pickT (v := .bool _) rfl rfl) ?_
                                          refine st_nil ?_
                                          refine nx_then ?_
                                          refine cd_condT rfl ?_
                                          refine cd_seq ?_
                                          refine cd_region ?_
                                          refine st_val (ro_assign (v := .bool _) rfl) ?_
                                          refine st_nil ?_
                                          refine nx_then ?_
                                          refine cd_ret ?_
                                          refine rt_then ?_
                                          refine rt_block ?_
                                          refine rt_then ?_
                                          refine rt_then ?_
                                          refine rt_block ?_
                                          refine rt_then ?_
                                          refine res1 (v := .bool _) rfl rfl ?_
                                          exact ⟨rfl, (((((((((hB.next E4).only O4 (hg4)).next E30).next E47).next E5).only O7 (hg5)).next E65).next E8).only O9 (hg8))⟩
                                     · (try first | replace Q20 := bn_t Q20 | replace Q20 := bn_f Q20)
                                       (try first | replace Q20 := bx_t Q20 | replace Q20 := bx_f Q20 | replace Q20 := be_t Q20 | replace Q20 := be_f Q20 | replace Q20 := of_decide_eq_true Q20 | replace Q20 := of_decide_eq_false Q20)
                                       first
                                        | (exfalso; first | first | omega | (simp at *; done) | contradiction | (cases Q20; done))
                                        | skip
                                          refine st_unguard rfl ?_
                                          refine st_val (ro_loadA (cs := [_, _, _]) EntAgain_g25 EntAgain_z25 rfl (by first | (first | exact (P4.from_ From.rfl_).whole | exact (P4.from_ From.rfl_).rd 0 rfl | exact (P4.from_ From.rfl_).rd 1 rfl | exact (P4.from_ From.rfl_).rd 2 rfl | exact (P4.from_ From.rfl_).rd 3 rfl | exact (P4.from_ From.rfl_).rd 4 rfl | exact (P4.from_ From.rfl_).rd 5 rfl | exact (P4.from_ From.rfl_).pre3) | (first | exact (P7.from_ From.rfl_).whole | exact (P7.from_ From.rfl_).rd 0 rfl | exact (P7.from_ From.rfl_).rd 1 rfl | exact (P7.from_ From.rfl_).rd 2 rfl))) ?_
                                          refine st_unguard rfl ?_
                                          refine st_val (ro_loadA (cs := [_, _, _]) EntAgain_g25 EntAgain_z25 rfl (by exact (P9.from_ From.rfl_).whole)) ?_
                                          refine st_unguard rfl ?_
                                          refine st_call EntAgain_k32 (Rt.of (eqLog_same B T _ _ ys _ (hys.from_ From.rfl_) (hy65.from_ (((From.rfl_.next E8).only O9 (by omega)).next From.rfl_)) (by omega))) ?_
                                          rintro v78 w21 ⟨rfl, E78⟩
                                          refine st_unguard rfl ?_
                                          refine st_val (ro_not rfl) ?_
                                          refine st_val (ro_pickF (v := .bool _) rfl rfl) ?_
                                          refine st_val (ro_move (v := .bool _) rfl) ?_
                                          refine st_split (t := 81) rfl (fun Q22 => ?_) (fun Q22 => ?_)
                                          · (try first | replace Q22 := bn_t Q22 | replace Q22 := bn_f Q22)
                                            (try first | replace Q22 := bx_t Q22 | replace Q22 := bx_f Q22 | replace Q22 := be_t Q22 | replace Q22 := be_f Q22 | replace Q22 := of_decide_eq_true Q22 | replace Q22 := of_decide_eq_false Q22)
                                            first
                                             | (exfalso; first | first | omega | (simp at *; done) | contradiction | (cases Q22; done))
                                             | skip
                                               refine st_gno rfl rfl ?_
                                               refine st_gno rfl rfl ?_
                                               refine st_gno rfl rfl ?_
                                               refine st_gno rfl rfl ?_
                                               refine st_val (ro_pickT (v := .bool _) rfl rfl) ?_
                                               refine st_val (ro_move (v := .bool _) rfl) ?_
                                               refine st_gno rfl rfl ?_
                                               refine st_gno rfl rfl ?_
                                               refine st_gno rfl rfl ?_
                                               refine st_gno rfl rfl ?_
                                               refine st_gno rfl rfl ?_
                                               refine st_gno rfl rfl ?_
                                               refine st_val (ro_pickT (v := .bool _) rfl rfl) ?_
                                               refine st_nil ?_
                                               refine nx_then ?_
                                               refine cd_condT rfl ?_
                                               refine cd_seq ?_
                                               refine cd_region ?_
                                               refine st_val (ro_assign (v := .bool _) rfl) ?_
                                               refine st_nil ?_
                                               refine nx_then ?_
                                               refine cd_ret ?_
                                               refine rt_then ?_
                                               refine rt_block ?_
                                               refine rt_then ?_
                                               refine rt_then ?_
                                               refine rt_block ?_
                                               refine rt_then ?_
                                               refine res1 (v := .bool _) rfl rfl ?_
                                               exact ⟨rfl, ((((((((((hB.next E4).only O4 (hg4)).next E30).next E47).next E5).only O7 (hg5)).next E65).next E8).only O9 (hg8)).next E78)⟩
                                          · (try first | replace Q22 := bn_t Q22 | replace Q22 := bn_f Q22)
                                            (try first | replace Q22 := bx_t Q22 | replace Q22 := bx_f Q22 | replace Q22 := be_t Q22 | replace Q22 := be_f Q22 | replace Q22 := of_decide_eq_true Q22 | replace Q22 := of_decide_eq_false Q22)
                                            first
                                             | (exfalso; first | first | omega | (simp at *; done) | contradiction | (cases Q22; done))
                                             | skip
                                               refine st_unguard rfl ?_
                                               refine st_val (ro_loadA (cs := [_, _, _]) EntAgain_g25 EntAgain_z25 rfl (by first | (first | exact (P4.from_ (From.rfl_.next E78)).whole | exact (P4.from_ (From.rfl_.next E78)).rd 0 rfl | exact (P4.from_ (From.rfl_.next E78)).rd 1 rfl | exact (P4.from_ (From.rfl_.next E78)).rd 2 rfl | exact (P4.from_ (From.rfl_.next E78)).rd 3 rfl | exact (P4.from_ (From.rfl_.next E78)).rd 4 rfl | exact (P4.from_ (From.rfl_.next E78)).rd 5 rfl | exact (P4.from_ (From.rfl_.next E78)).pre3) | (first | exact (P7.from_ (From.rfl_.next E78)).whole | exact (P7.from_ (From.rfl_.next E78)).rd 0 rfl | exact (P7.from_ (From.rfl_.next E78)).rd 1 rfl | exact (P7.from_ (From.rfl_.next E78)).rd 2 rfl))) ?_
                                               refine st_unguard rfl ?_
                                               refine st_call EntAgain_k24 (check_ok B T A5 _ c5 ys _ (hys.from_ (From.rfl_.next E78)) hmy) ?_
                                               rintro v83 w23 ⟨rfl, E83⟩
                                               refine st_unguard rfl ?_
                                               refine st_call EntAgain_k23 (Rt.of (errnum_any _ _)) ?_
                                               rintro v84 w24 ⟨rfl, rfl⟩
                                               refine st_unguard rfl ?_
                                               refine st_val (ro_neq rfl rfl) ?_
                                               refine st_val (ro_pickF (v := .bool _) rfl rfl) ?_
                                               refine st_val (ro_move (v := .bool _) rfl) ?_
                                               refine st_split (t := 87) rfl (fun Q25 => ?_) (fun Q25 => ?_)
                                               · (try first | replace Q25 := bn_t Q25 | replace Q25 := bn_f Q25)
                                                 (try first | replace Q25 := bx_t Q25 | replace Q25 := bx_f Q25 | replace Q25 := be_t Q25 | replace Q25 := be_f Q25 | replace Q25 := of_decide_eq_true Q25 | replace Q25 := of_decide_eq_false Q25)
                                                 first
                                                  | (exfalso; first | first | omega | (simp at *; done) | contradiction | (cases Q25; done))
                                                  | skip
                                                    refine st_gno rfl rfl ?_
                                                    refine st_gno rfl rfl ?_
                                                    refine st_gno rfl rfl ?_
                                                    refine st_gno rfl rfl ?_
                                                    refine st_gno rfl rfl ?_
                                                    refine st_gno rfl rfl ?_
                                                    refine st_val (ro_pickT (v := .bool _) rfl rfl) ?_
                                                    refine st_nil ?_
                                                    refine nx_then ?_
                                                    refine cd_condT rfl ?_
                                                    refine cd_seq ?_
                                                    refine cd_region ?_
                                                    refine st_val (ro_assign (v := .bool _) rfl) ?_
                                                    refine st_nil ?_
                                                    refine nx_then ?_
                                                    refine cd_ret ?_
                                                    refine rt_then ?_
                                                    refine rt_block ?_
                                                    refine rt_then ?_
                                                    refine rt_then ?_
                                                    refine rt_block ?_
                                                    refine rt_then ?_
                                                    refine res1 (v := .bool _) rfl rfl ?_
                                                    exact ⟨rfl, (((((((((((hB.next E4).only O4 (hg4)).next E30).next E47).next E5).only O7 (hg5)).next E65).next E8).only O9 (hg8)).next E78).next E83)⟩
                                               · (try first | replace Q25 := bn_t Q25 | replace Q25 := bn_f Q25)
                                                 (try first | replace Q25 := bx_t Q25 | replace Q25 := bx_f Q25 | replace Q25 := be_t Q25 | replace Q25 := be_f Q25 | replace Q25 := of_decide_eq_true Q25 | replace Q25 := of_decide_eq_false Q25)
                                                 first
                                                  | (exfalso; first | first | omega | (simp at *; done) | contradiction | (cases Q25; done))
                                                  | skip
                                                    refine st_unguard rfl ?_
                                                    refine st_val (ro_fieldAddr EntAgain_f25_0 rfl) ?_
                                                    refine st_unguard rfl ?_
                                                    refine st_val (ro_load EntAgain_g3 rfl (by first | (first | exact (P4.from_ ((From.rfl_.next E78).next E83)).whole | exact (P4.from_ ((From.rfl_.next E78).next E83)).rd 0 rfl | exact (P4.from_ ((From.rfl_.next E78).next E83)).rd 1 rfl | exact (P4.from_ ((From.rfl_.next E78).next E83)).rd 2 rfl | exact (P4.from_ ((From.rfl_.next E78).next E83)).rd 3 rfl | exact (P4.from_ ((From.rfl_.next E78).next E83)).rd 4 rfl | exact (P4.from_ ((From.rfl_.next E78).next E83)).rd 5 rfl | exact (P4.from_ ((From.rfl_.next E78).next E83)).pre3) | (first | exact (P7.from_ ((From.rfl_.next E78).next E83)).whole | exact (P7.from_ ((From.rfl_.next E78).next E83)).rd 0 rfl | exact (P7.from_ ((From.rfl_.next E78).next E83)).rd 1 rfl | exact (P7.from_ ((From.rfl_.next E78).next E83)).rd 2 rfl))) ?_
                                                    refine st_unguard rfl ?_
                                                    refine st_val (ro_fieldAddr EntAgain_f27_0 rfl) ?_
                                                    refine st_unguard rfl ?_
                                                    refine st_val (ro_fieldAddr EntAgain_f25_0 rfl) ?_
                                                    refine st_unguard rfl ?_
                                                    refine st_val (ro_load EntAgain_g3 rfl (by first | (first | exact (P4.from_ ((From.rfl_.next E78).next E83)).whole | exact (P4.from_ ((From.rfl_.next E78).next E83)).rd 0 rfl | exact (P4.from_ ((From.rfl_.next E78).next E83)).rd 1 rfl | exact (P4.from_ ((From.rfl_.next E78).next E83)).rd 2 rfl | exact (P4.from_ ((From.rfl_.next E78).next E83)).rd 3 rfl | exact (P4.from_ ((From.rfl_.next E78).next E83)).rd 4 rfl | exact (P4.from_ ((From.rfl_.next E78).next E83)).rd 5 rfl | exact (P4.from_ ((From.rfl_.next E78).next E83)).pre3) | (first | exact (P7.from_ ((From.rfl_.next E78).next E83)).whole | exact (P7.from_ ((From.rfl_.next E78).next E83)).rd 0 rfl | exact (P7.from_ ((From.rfl_.next E78).next E83)).rd 1 rfl | exact (P7.from_ ((From.rfl_.next E78).next E83)).rd 2 rfl))) ?_
                                                    refine st_unguard rfl ?_
                                                    refine st_val (ro_neq rfl rfl) ?_
                                                    refine st_val (ro_pickF (v := .bool _) rfl rfl) ?_
                                                    refine st_nil ?_
                                                    refine nx_then ?_
                                                    refine cd_cond rfl (fun Q26 => ?_) (fun Q26 => ?_)
                                                    · (try first | replace Q26 := bn_t Q26 | replace Q26 := bn_f Q26)
                                                      (try first | replace Q26 := bx_t Q26 | replace Q26 := bx_f Q26 | replace Q26 := be_t Q26 | replace Q26 := be_f Q26 | replace Q26 := of_decide_eq_true Q26 | replace Q26 := of_decide_eq_false Q26)
                                                      first
                                                       | (exfalso; first | first | omega | (simp at *; done) | contradiction | (cases Q26; done))
                                                       | skip
                                                         refine cd_seq ?_
                                                         refine cd_region ?_
                                                         refine st_val (ro_assign (v := .bool _) rfl) ?_
                                                         refine st_nil ?_
                                                         refine nx_then ?_
                                                         refine cd_ret ?_
                                                         refine rt_then ?_
                                                         refine rt_block ?_
                                                         refine rt_then ?_
                                                         refine rt_then ?_
                                                         refine rt_block ?_
                                                         refine rt_then ?_
                                                         refine res1 (v := .bool _) rfl rfl ?_
                                                         exact ⟨rfl, (((((((((((hB.next E4).only O4 (hg4)).next E30).next E47).next E5).only O7 (hg5)).next E65).next E8).only O9 (hg8)).next E78).next E83)⟩
                                                    · (try first | replace Q26 := bn_t Q26 | replace Q26 := bn_f Q26)
                                                      (try first | replace Q26 := bx_t Q26 | replace Q26 := bx_f Q26 | replace Q26 := be_t Q26 | replace Q26 := be_f Q26 | replace Q26 := of_decide_eq_true Q26 | replace Q26 := of_decide_eq_false Q26)
                                                      first
                                                       | (exfalso; first | first | omega | (simp at *; done) | contradiction | (cases Q26; done))
                                                       | skip
                                                         refine cd_skip ?_
                                                         refine nx_then ?_
                                                         refine cd_seq ?_
                                                         refine cd_seq ?_
                                                         refine cd_region ?_
                                                         refine st_val (ro_assign (v := .int _ _) rfl) ?_
                                                         refine st_nil ?_
                                                         refine nx_then ?_
                                                         refine cd_block ?_
                                                         refine cd_loop (G := Nat) [2, 12, 95, 96, 97, 98, 99, 100, 101, 102, 103, 104, 105, 106, 107, 108, 109, 110, 111, 112, 113, 114, 115, 116, 117, 118, 119, 120, 121, 122, 123, 124, 125, 126, 127, 128, 129, 130, 131, 132, 133, 134, 135, 136, 137, 138, 139, 140, 141, 142, 143, 144, 145, 146, 147, 148, 149, 150, 151, 152, 153, 154, 155] (fun j => [(11, .int .i64 (j : Nat))]) (fun j w' => j ≤ es.length ∧ Ents w' (.slice A5 ys.length c5) ys ∧ Blk w' b4 27 #[.int .i64 B, .int .i64 T, .slice A1 xs.length c1, .int .i64 I, .int .i64 M, .slice A2 es.length c2, .int .i64 N] ∧ Blk w' b5 25 #[.int .i64 B, .int .i64 T, .slice A5 ys.length c5] ∧ From w w') (fun j => es.length - j) (0) ⟨rfl, trivial⟩ ?_ ?_
                                                         · exact ⟨Nat.zero_le _, hys.from_ ((From.rfl_.next E78).next E83), P4.from_ ((From.rfl_.next E78).next E83), P7.from_ ((From.rfl_.next E78).next E83), (((((((((((hB.next E4).only O4 (hg4)).next E30).next E47).next E5).only O7 (hg5)).next E65).next E8).only O9 (hg8)).next E78).next E83)⟩
                                                         rintro j ρ27 w27 ⟨hj, hys, P4, P7, hB⟩
                                                         refine cd_seq ?_
                                                         refine cd_seq ?_
                                                         refine cd_region ?_
                                                         refine st_val (ro_move (v := .int _ _) rfl) ?_
                                                         refine st_val (ro_fieldAddr EntAgain_f27_3 rfl) ?_
                                                         refine st_val (ro_load EntAgain_g23 rfl (by first | (first | exact (P4.from_ From.rfl_).whole | exact (P4.from_ From.rfl_).rd 0 rfl | exact (P4.from_ From.rfl_).rd 1 rfl | exact (P4.from_ From.rfl_).rd 2 rfl | exact (P4.from_ From.rfl_).rd 3 rfl | exact (P4.from_ From.rfl_).rd 4 rfl | exact (P4.from_ From.rfl_).rd 5 rfl | exact (P4.from_ From.rfl_).pre3) | (first | exact (P7.from_ From.rfl_).whole | exact (P7.from_ From.rfl_).rd 0 rfl | exact (P7.from_ From.rfl_).rd 1 rfl | exact (P7.from_ From.rfl_).rd 2 rfl))) ?_
                                                         refine st_val (ro_len EntAgain_l23 rfl) ?_
                                                         refine st_val (ro_lss rfl rfl) ?_
                                                         refine st_nil ?_
                                                         refine nx_then ?_
                                                         refine cd_cond rfl (fun Q28 => ?_) (fun Q28 => ?_)
                                                         · (try first | replace Q28 := bn_t Q28 | replace Q28 := bn_f Q28)
                                                           (try first | replace Q28 := bx_t Q28 | replace Q28 := bx_f Q28 | replace Q28 := be_t Q28 | replace Q28 := be_f Q28 | replace Q28 := of_decide_eq_true Q28 | replace Q28 := of_decide_eq_false Q28)
                                                           obtain ⟨b2, o2, rfl, hel2⟩ := hat.ent.elem (by omega)
                                                           first
                                                            | (exfalso; first | first | omega | (simp at *; done) | contradiction | (cases Q28; done))
                                                            | skip
                                                              refine cd_skip ?_
                                                              refine nx_then ?_
                                                              refine cd_seq ?_
                                                              refine cd_block ?_
                                                              refine cd_seq ?_
                                                              refine cd_seq ?_
                                                              apply cd_drawn 9 [(102, eqp _), (103, eqp _), (104, eqp _), (105, eqp _), (106, eqp _), (107, eqp _), (108, eqp _), (109, eqp _), (110, eqp _)] (by kernel_rfl) (by kernel_rfl) ⟨eqp_mono _, eqp_mono _, eqp_mono _, eqp_mono _, eqp_mono _, eqp_mono _, eqp_mono _, eqp_mono _, eqp_mono _, trivial⟩
                                                              case hop =>
                                                               refine ⟨?_, ?_⟩
                                                               · intro w30 D30
                                                                 show OpOK _ _ _ _ _ _ _
                                                                 exact ok_pure (ro_fieldAddr EntAgain_f27_3 rfl) rfl
                                                               refine ⟨?_, ?_⟩
                                                               · intro w31 D31
                                                                 rintro _ rfl
                                                                 show OpOK _ _ _ _ _ _ _
                                                                 exact ok_pure (ro_load EntAgain_g23 rfl (by first | (first | exact (P4.from_ (From.rfl_.next D31)).whole | exact (P4.from_ (From.rfl_.next D31)).rd 0 rfl | exact (P4.from_ (From.rfl_.next D31)).rd 1 rfl | exact (P4.from_ (From.rfl_.next D31)).rd 2 rfl | exact (P4.from_ (From.rfl_.next D31)).rd 3 rfl | exact (P4.from_ (From.rfl_.next D31)).rd 4 rfl | exact (P4.from_ (From.rfl_.next D31)).rd 5 rfl | exact (P4.from_ (From.rfl_.next D31)).pre3) | (first | exact (P7.from_ (From.rfl_.next D31)).whole | exact (P7.from_ (From.rfl_.next D31)).rd 0 rfl | exact (P7.from_ (From.rfl_.next D31)).rd 1 rfl | exact (P7.from_ (From.rfl_.next D31)).rd 2 rfl))) rfl
                                                               refine ⟨?_, ?_⟩
                                                               · intro w32 D32
                                                                 show OpOK _ _ _ _ _ _ _
                                                                 exact ok_pure (ro_move (v := .int _ _) rfl) rfl
                                                               refine ⟨?_, ?_⟩
                                                               · intro w33 D33
                                                                 rintro _ rfl _ rfl
                                                                 show OpOK _ _ _ _ _ _ _
                                                                 exact ok_pure (ro_indexAddrN EntAgain_e23 rfl rfl (by omega)) rfl
                                                               refine ⟨?_, ?_⟩
                                                               · intro w34 D34
                                                                 rintro _ rfl
                                                                 show OpOK _ _ _ _ _ _ _
                                                                 exact ok_pure (ro_fieldAddr EntAgain_f63_0 rfl) rfl
                                                               refine ⟨?_, ?_⟩
                                                               · intro w35 D35
                                                                 rintro _ rfl
                                                                 show OpOK _ _ _ _ _ _ _
                                                                 exact ok_pure (ro_load EntAgain_g3 rfl (by first | exact rangeF (hB.next D35) (hel2 j (by omega)) 0 _ rfl | exact rangeF (hB.next D35) (hel2 j (by omega)) 1 _ rfl)) rfl
                                                               refine ⟨?_, ?_⟩
                                                               · intro w36 D36
                                                                 show OpOK _ _ _ _ _ _ _
                                                                 exact ok_pure (ro_fieldAddr EntAgain_f25_0 rfl) rfl
                                                               refine ⟨?_, ?_⟩
                                                               · intro w37 D37
                                                                 rintro _ rfl
                                                                 show OpOK _ _ _ _ _ _ _
                                                                 exact ok_pure (ro_load EntAgain_g3 rfl (by first | (first | exact (P4.from_ (From.rfl_.next D37)).whole | exact (P4.from_ (From.rfl_.next D37)).rd 0 rfl | exact (P4.from_ (From.rfl_.next D37)).rd 1 rfl | exact (P4.from_ (From.rfl_.next D37)).rd 2 rfl | exact (P4.from_ (From.rfl_.next D37)).rd 3 rfl | exact (P4.from_ (From.rfl_.next D37)).rd 4 rfl | exact (P4.from_ (From.rfl_.next D37)).rd 5 rfl | exact (P4.from_ (From.rfl_.next D37)).pre3) | (first | exact (P7.from_ (From.rfl_.next D37)).whole | exact (P7.from_ (From.rfl_.next D37)).rd 0 rfl | exact (P7.from_ (From.rfl_.next D37)).rd 1 rfl | exact (P7.from_ (From.rfl_.next D37)).rd 2 rfl))) rfl
                                                               refine ⟨?_, ?_⟩
                                                               · intro w38 D38
                                                                 rintro _ rfl _ rfl
                                                                 show OpOK _ _ _ _ _ _ _
                                                                 exact ok_pure (ro_leq rfl rfl) rfl
                                                               exact trivial
                                                              case hend =>
                                                               intro w39 D39
                                                               rintro _ rfl _ rfl _ rfl _ rfl _ rfl _ rfl _ rfl _ rfl _ rfl
                                                               show St _ _ _ _ _ _ _
                                                               refine st_nil ?_
                                                               refine nx_then ?_
                                                               refine cd_cond rfl (fun Q40 => ?_) (fun Q40 => ?_)
                                                               · (try first | replace Q40 := bn_t Q40 | replace Q40 := bn_f Q40)
                                                                 (try first | replace Q40 := bx_t Q40 | replace Q40 := bx_f Q40 | replace Q40 := be_t Q40 | replace Q40 := be_f Q40 | replace Q40 := of_decide_eq_true Q40 | replace Q40 := of_decide_eq_false Q40)
                                                                 first
                                                                  | (exfalso; first | first | omega | (simp at *; done) | contradiction | (cases Q40; done))
                                                                  | skip
                                                                    refine cd_exit ?_
                                                                    refine ex_then ?_
                                                                    refine ex_block ?_
                                                                    refine nx_then ?_
                                                                    refine cd_region ?_
                                                                    refine st_val (ro_move (v := .int _ _) rfl) ?_
                                                                    refine st_val (ro_addN (b := 1) rfl rfl (by omega)) ?_
                                                                    refine st_val (ro_assign (v := .int _ _) rfl) ?_
                                                                    refine st_nil ?_
                                                                    refine nx_cut (j + 1) ⟨(by first | rfl | (refine int_eq ?_; omega)), trivial⟩ (by (iterate 81 refine agr_cons rfl ?_); exact agr_rfl) ⟨?_, ?_⟩
                                                                    · exact ⟨by omega, hys.from_ (From.rfl_.next D39), P4.from_ (From.rfl_.next D39), P7.from_ (From.rfl_.next D39), (hB.next D39)⟩
                                                                    · omega
                                                               · (try first | replace Q40 := bn_t Q40 | replace Q40 := bn_f Q40)
                                                                 (try first | replace Q40 := bx_t Q40 | replace Q40 := bx_f Q40 | replace Q40 := be_t Q40 | replace Q40 := be_f Q40 | replace Q40 := of_decide_eq_true Q40 | replace Q40 := of_decide_eq_false Q40)
                                                                 have hij := runs_get _ _ _ hrI j (by omega)
                                                                 obtain ⟨hp0, hpos, hyt, hyi⟩ := merge_has hr47 j (by omega) (by omega)
                                                                 obtain ⟨b6, o6, rfl, hyc⟩ := hys.elem (by omega)
                                                                 first
                                                                  | (exfalso; first | first | omega | (simp at *; done) | contradiction | (cases Q40; done))
                                                                  | skip
                                                                    refine cd_skip ?_
                                                                    refine nx_then ?_
                                                                    refine cd_seq ?_
                                                                    apply cd_drawn 11 [(111, eqp _), (112, eqp _), (113, eqp _), (114, eqp _), (115, eqp _), (116, eqp _), (117, eqp _), (118, eqp _), (119, eqp _), (120, eqp _), (12, eqp _)] (by kernel_rfl) (by kernel_rfl) ⟨eqp_mono _, eqp_mono _, eqp_mono _, eqp_mono _, eqp_mono _, eqp_mono _, eqp_mono _, eqp_mono _, eqp_mono _, eqp_mono _, eqp_mono _, trivial⟩
                                                                    case hop =>
                                                                     refine ⟨?_, ?_⟩
                                                                     · intro w42 D42
                                                                       show OpOK _ _ _ _ _ _ _
                                                                       exact ok_pure (ro_fieldAddr EntAgain_f27_3 rfl) rfl
                                                                     refine ⟨?_, ?_⟩
                                                                     · intro w43 D43
                                                                       rintro _ rfl
                                                                       show OpOK _ _ _ _ _ _ _
                                                                       exact ok_pure (ro_load EntAgain_g23 rfl (by first | (first | exact (P4.from_ ((From.rfl_.next D39).next D43)).whole | exact (P4.from_ ((From.rfl_.next D39).next D43)).rd 0 rfl | exact (P4.from_ ((From.rfl_.next D39).next D43)).rd 1 rfl | exact (P4.from_ ((From.rfl_.next D39).next D43)).rd 2 rfl | exact (P4.from_ ((From.rfl_.next D39).next D43)).rd 3 rfl | exact (P4.from_ ((From.rfl_.next D39).next D43)).rd 4 rfl | exact (P4.from_ ((From.rfl_.next D39).next D43)).rd 5 rfl | exact (P4.from_ ((From.rfl_.next D39).next D43)).pre3) | (first | exact (P7.from_ ((From.rfl_.next D39).next D43)).whole | exact (P7.from_ ((From.rfl_.next D39).next D43)).rd 0 rfl | exact (P7.from_ ((From.rfl_.next D39).next D43)).rd 1 rfl | exact (P7.from_ ((From.rfl_.next D39).next D43)).rd 2 rfl))) rfl
                                                                     refine ⟨?_, ?_⟩
                                                                     · intro w44 D44
                                                                       show OpOK _ _ _ _ _ _ _
                                                                       exact ok_pure (ro_move (v := .int _ _) rfl) rfl
                                                                     refine ⟨?_, ?_⟩
                                                                     · intro w45 D45
                                                                       rintro _ rfl _ rfl
                                                                       show OpOK _ _ _ _ _ _ _
                                                                       exact ok_pure (ro_indexAddrN EntAgain_e23 rfl rfl (by omega)) rfl
                                                                     refine ⟨?_, ?_⟩
                                                                     · intro w46 D46
                                                                       rintro _ rfl
                                                                       show OpOK _ _ _ _ _ _ _
                                                                       exact ok_pure (ro_fieldAddr EntAgain_f63_0 rfl) rfl
                                                                     refine ⟨?_, ?_⟩
                                                                     · intro w47 D47
                                                                       rintro _ rfl
                                                                       show OpOK _ _ _ _ _ _ _
                                                                       exact ok_pure (ro_load EntAgain_g3 rfl (by first | exact rangeF ((hB.next D39).next D47) (hel2 j (by omega)) 0 _ rfl | exact rangeF ((hB.next D39).next D47) (hel2 j (by omega)) 1 _ rfl)) rfl
                                                                     refine ⟨?_, ?_⟩
                                                                     · intro w48 D48
                                                                       show OpOK _ _ _ _ _ _ _
                                                                       exact ok_pure (ro_fieldAddr EntAgain_f25_0 rfl) rfl
                                                                     refine ⟨?_, ?_⟩
                                                                     · intro w49 D49
                                                                       rintro _ rfl
                                                                       show OpOK _ _ _ _ _ _ _
                                                                       exact ok_pure (ro_load EntAgain_g3 rfl (by first | (first | exact (P4.from_ ((From.rfl_.next D39).next D49)).whole | exact (P4.from_ ((From.rfl_.next D39).next D49)).rd 0 rfl | exact (P4.from_ ((From.rfl_.next D39).next D49)).rd 1 rfl | exact (P4.from_ ((From.rfl_.next D39).next D49)).rd 2 rfl | exact (P4.from_ ((From.rfl_.next D39).next D49)).rd 3 rfl | exact (P4.from_ ((From.rfl_.next D39).next D49)).rd 4 rfl | exact (P4.from_ ((From.rfl_.next D39).next D49)).rd 5 rfl | exact (P4.from_ ((From.rfl_.next D39).next D49)).pre3) | (first | exact (P7.from_ ((From.rfl_.next D39).next D49)).whole | exact (P7.from_ ((From.rfl_.next D39).next D49)).rd 0 rfl | exact (P7.from_ ((From.rfl_.next D39).next D49)).rd 1 rfl | exact (P7.from_ ((From.rfl_.next D39).next D49)).rd 2 rfl))) rfl
                                                                     refine ⟨?_, ?_⟩
                                                                     · intro w50 D50
                                                                       rintro _ rfl _ rfl
                                                                       show OpOK _ _ _ _ _ _ _
                                                                       exact ok_pure (ro_sub64 rfl rfl (by omega)) rfl
                                                                     refine ⟨?_, ?_⟩
                                                                     · intro w51 D51
                                                                       rintro _ rfl
                                                                       show OpOK _ _ _ _ _ _ _
                                                                       exact ok_pure (ro_sub64 rfl rfl (by omega)) rfl
                                                                     refine ⟨?_, ?_⟩
                                                                     · intro w52 D52
                                                                       rintro _ rfl
                                                                       show OpOK _ _ _ _ _ _ _
                                                                       exact ok_pure (ro_assign (v := .int _ _) rfl) rfl
                                                                     exact trivial
                                                                    case hend =>
                                                                     intro w53 D53
                                                                     rintro _ rfl _ rfl _ rfl _ rfl _ rfl _ rfl _ rfl _ rfl _ rfl _ rfl _ rfl
                                                                     show St _ _ _ _ _ _ _
                                                                     refine st_nil ?_
                                                                     refine nx_then ?_
                                                                     refine cd_seq ?_
                                                                     have hz : (0 : Nat) = 0 := rfl
                                                                     · apply cd_drawn 35 [(121, eqp _), (122, eqp _), (123, eqp _), (124, eqp _), (125, eqp _), (126, eqp _), (127, eqp _), (128, eqp _), (129, eqp _), (130, eqp _), (131, eqp _), (132, eqp _), (133, eqp _), (134, eqp _), (135, eqp _), (136, eqp _), (137, eqp _), (138, eqp _), (139, eqp _), (140, eqp _), (141, eqp _), (142, eqp _), (143, eqp _), (144, eqp _), (145, eqp _), (146, eqp _), (147, eqp _), (148, eqp _), (149, eqp _), (150, eqp _), (151, eqp _), (152, eqp _), (153, eqp _), (154, eqp _), (155, eqp _)] (by kernel_rfl) (by kernel_rfl) ⟨eqp_mono _, eqp_mono _, eqp_mono _, eqp_mono _, eqp_mono _, eqp_mono _, eqp_mono _, eqp_mono _, eqp_mono _, eqp_mono _, eqp_mono _, eqp_mono _, eqp_mono _, eqp_mono _, eqp_mono _, eqp_mono _, eqp_mono _, eqp_mono _, eqp_mono _, eqp_mono _, eqp_mono _, eqp_mono _, eqp_mono _, eqp_mono _, eqp_mono _, eqp_mono _, eqp_mono _, eqp_mono _, eqp_mono _, eqp_mono _, eqp_mono _, eqp_mono _, eqp_mono _, eqp_mono _, eqp_mono _, trivial⟩
                                                                       case hop =>
                                                                        refine ⟨?_, ?_⟩
                                                                        · intro w55 D55
                                                                          show OpOK _ _ _ _ _ _ _
                                                                          exact ok_pure (ro_move (v := .int _ _) rfl) rfl
                                                                        refine ⟨?_, ?_⟩
                                                                        · intro w56 D56
                                                                          show OpOK _ _ _ _ _ _ _
                                                                          exact ok_pure (ro_fieldAddr EntAgain_f25_2 rfl) rfl
                                                                        refine ⟨?_, ?_⟩
                                                                        · intro w57 D57
                                                                          rintro _ rfl
                                                                          show OpOK _ _ _ _ _ _ _
                                                                          exact ok_pure (ro_load EntAgain_g23 rfl (by first | (first | exact (P4.from_ (((From.rfl_.next D39).next D53).next D57)).whole | exact (P4.from_ (((From.rfl_.next D39).next D53).next D57)).rd 0 rfl | exact (P4.from_ (((From.rfl_.next D39).next D53).next D57)).rd 1 rfl | exact (P4.from_ (((From.rfl_.next D39).next D53).next D57)).rd 2 rfl | exact (P4.from_ (((From.rfl_.next D39).next D53).next D57)).rd 3 rfl | exact (P4.from_ (((From.rfl_.next D39).next D53).next D57)).rd 4 rfl | exact (P4.from_ (((From.rfl_.next D39).next D53).next D57)).rd 5 rfl | exact (P4.from_ (((From.rfl_.next D39).next D53).next D57)).pre3) | (first | exact (P7.from_ (((From.rfl_.next D39).next D53).next D57)).whole | exact (P7.from_ (((From.rfl_.next D39).next D53).next D57)).rd 0 rfl | exact (P7.from_ (((From.rfl_.next D39).next D53).next D57)).rd 1 rfl | exact (P7.from_ (((From.rfl_.next D39).next D53).next D57)).rd 2 rfl))) rfl
                                                                        refine ⟨?_, ?_⟩
                                                                        · intro w58 D58
                                                                          rintro _ rfl
                                                                          show OpOK _ _ _ _ _ _ _
                                                                          exact ok_pure (ro_len EntAgain_l23 rfl) rfl
                                                                        refine ⟨?_, ?_⟩
                                                                        · intro w59 D59
                                                                          rintro _ rfl _ rfl
                                                                          show OpOK _ _ _ _ _ _ _
                                                                          exact ok_pure (ro_bf (ro_geq rfl rfl) (decide_eq_false (by omega))) rfl
                                                                        refine ⟨?_, ?_⟩
                                                                        · intro w60 D60
                                                                          rintro _ rfl
                                                                          show OpOK _ _ _ _ _ _ _
                                                                          exact ok_pure (ro_move (v := .bool _) rfl) rfl
                                                                        refine ⟨?_, ?_⟩
                                                                        · intro w61 D61
                                                                          rintro _ rfl
                                                                          show OpOK _ _ _ _ _ _ _
                                                                          exact ok_gpure rfl (ro_fieldAddr EntAgain_f25_2 rfl) rfl
                                                                        refine ⟨?_, ?_⟩
                                                                        · intro w62 D62
                                                                          rintro _ rfl _ rfl
                                                                          show OpOK _ _ _ _ _ _ _
                                                                          exact ok_gpure rfl (ro_load EntAgain_g23 rfl (by first | (first | exact (P4.from_ (((From.rfl_.next D39).next D53).next D62)).whole | exact (P4.from_ (((From.rfl_.next D39).next D53).next D62)).rd 0 rfl | exact (P4.from_ (((From.rfl_.next D39).next D53).next D62)).rd 1 rfl | exact (P4.from_ (((From.rfl_.next D39).next D53).next D62)).rd 2 rfl | exact (P4.from_ (((From.rfl_.next D39).next D53).next D62)).rd 3 rfl | exact (P4.from_ (((From.rfl_.next D39).next D53).next D62)).rd 4 rfl | exact (P4.from_ (((From.rfl_.next D39).next D53).next D62)).rd 5 rfl | exact (P4.from_ (((From.rfl_.next D39).next D53).next D62)).pre3) | (first | exact (P7.from_ (((From.rfl_.next D39).next D53).next D62)).whole | exact (P7.from_ (((From.rfl_.next D39).next D53).next D62)).rd 0 rfl | exact (P7.from_ (((From.rfl_.next D39).next D53).next D62)).rd 1 rfl | exact (P7.from_ (((From.rfl_.next D39).next D53).next D62)).rd 2 rfl))) rfl
                                                                        refine ⟨?_, ?_⟩
                                                                        · intro w63 D63
                                                                          rintro _ rfl
                                                                          show OpOK _ _ _ _ _ _ _
                                                                          exact ok_gpure rfl (ro_move (v := .int _ _) rfl) rfl
                                                                        refine ⟨?_, ?_⟩
                                                                        · intro w64 D64
                                                                          rintro _ rfl _ rfl _ rfl
                                                                          show OpOK _ _ _ _ _ _ _
                                                                          exact ok_gpure rfl (ro_indexAddr EntAgain_e23 rfl rfl (by omega)) rfl
                                                                        refine ⟨?_, ?_⟩
                                                                        · intro w65 D65
                                                                          rintro _ rfl _ rfl
                                                                          show OpOK _ _ _ _ _ _ _
                                                                          exact ok_gpure rfl (ro_fieldAddr EntAgain_f63_1 rfl) rfl
                                                                        refine ⟨?_, ?_⟩
                                                                        · intro w66 D66
                                                                          rintro _ rfl _ rfl
                                                                          show OpOK _ _ _ _ _ _ _
                                                                          exact ok_gpure rfl (ro_load EntAgain_g3 rfl (by first | exact rangeF (((From.rfl_.next D39).next D53).next D66) (hyc _ hpos) 0 _ rfl | exact rangeF (((From.rfl_.next D39).next D53).next D66) (hyc _ hpos) 1 _ rfl)) rfl
                                                                        refine ⟨?_, ?_⟩
                                                                        · intro w67 D67
                                                                          rintro _ rfl
                                                                          show OpOK _ _ _ _ _ _ _
                                                                          exact ok_gpure rfl (ro_fieldAddr EntAgain_f27_3 rfl) rfl
                                                                        refine ⟨?_, ?_⟩
                                                                        · intro w68 D68
                                                                          rintro _ rfl _ rfl
                                                                          show OpOK _ _ _ _ _ _ _
                                                                          exact ok_gpure rfl (ro_load EntAgain_g23 rfl (by first | (first | exact (P4.from_ (((From.rfl_.next D39).next D53).next D68)).whole | exact (P4.from_ (((From.rfl_.next D39).next D53).next D68)).rd 0 rfl | exact (P4.from_ (((From.rfl_.next D39).next D53).next D68)).rd 1 rfl | exact (P4.from_ (((From.rfl_.next D39).next D53).next D68)).rd 2 rfl | exact (P4.from_ (((From.rfl_.next D39).next D53).next D68)).rd 3 rfl | exact (P4.from_ (((From.rfl_.next D39).next D53).next D68)).rd 4 rfl | exact (P4.from_ (((From.rfl_.next D39).next D53).next D68)).rd 5 rfl | exact (P4.from_ (((From.rfl_.next D39).next D53).next D68)).pre3) | (first | exact (P7.from_ (((From.rfl_.next D39).next D53).next D68)).whole | exact (P7.from_ (((From.rfl_.next D39).next D53).next D68)).rd 0 rfl | exact (P7.from_ (((From.rfl_.next D39).next D53).next D68)).rd 1 rfl | exact (P7.from_ (((From.rfl_.next D39).next D53).next D68)).rd 2 rfl))) rfl
                                                                        refine ⟨?_, ?_⟩
                                                                        · intro w69 D69
                                                                          rintro _ rfl
                                                                          show OpOK _ _ _ _ _ _ _
                                                                          exact ok_gpure rfl (ro_move (v := .int _ _) rfl) rfl
                                                                        refine ⟨?_, ?_⟩
                                                                        · intro w70 D70
                                                                          rintro _ rfl _ rfl _ rfl
                                                                          show OpOK _ _ _ _ _ _ _
                                                                          exact ok_gpure rfl (ro_indexAddrN EntAgain_e23 rfl rfl (by omega)) rfl
                                                                        refine ⟨?_, ?_⟩
                                                                        · intro w71 D71
                                                                          rintro _ rfl _ rfl
                                                                          show OpOK _ _ _ _ _ _ _
                                                                          exact ok_gpure rfl (ro_fieldAddr EntAgain_f63_1 rfl) rfl
                                                                        refine ⟨?_, ?_⟩
                                                                        · intro w72 D72
                                                                          rintro _ rfl _ rfl
                                                                          show OpOK _ _ _ _ _ _ _
                                                                          exact ok_gpure rfl (ro_load EntAgain_g3 rfl (by first | exact rangeF (((hB.next D39).next D53).next D72) (hel2 j (by omega)) 0 _ rfl | exact rangeF (((hB.next D39).next D53).next D72) (hel2 j (by omega)) 1 _ rfl)) rfl
                                                                        refine ⟨?_, ?_⟩
                                                                        · intro w73 D73
                                                                          rintro _ rfl _ rfl _ rfl
                                                                          show OpOK _ _ _ _ _ _ _
                                                                          exact ok_gpure rfl (ro_bf (ro_neq rfl rfl) (bne_eq_false_iff_eq.2 hyt)) rfl
                                                                        refine ⟨?_, ?_⟩
                                                                        · intro w74 D74
                                                                          rintro _ rfl _ rfl
                                                                          show OpOK _ _ _ _ _ _ _
                                                                          exact ok_pure (ro_pickF (v := .bool _) rfl rfl) rfl
                                                                        refine ⟨?_, ?_⟩
                                                                        · intro w75 D75
                                                                          rintro _ rfl
                                                                          show OpOK _ _ _ _ _ _ _
                                                                          exact ok_pure (ro_move (v := .bool _) rfl) rfl
                                                                        refine ⟨?_, ?_⟩
                                                                        · intro w76 D76
                                                                          rintro _ rfl
                                                                          show OpOK _ _ _ _ _ _ _
                                                                          exact ok_gpure rfl (ro_fieldAddr EntAgain_f25_2 rfl) rfl
                                                                        refine ⟨?_, ?_⟩
                                                                        · intro w77 D77
                                                                          rintro _ rfl _ rfl
                                                                          show OpOK _ _ _ _ _ _ _
                                                                          exact ok_gpure rfl (ro_load EntAgain_g23 rfl (by first | (first | exact (P4.from_ (((From.rfl_.next D39).next D53).next D77)).whole | exact (P4.from_ (((From.rfl_.next D39).next D53).next D77)).rd 0 rfl | exact (P4.from_ (((From.rfl_.next D39).next D53).next D77)).rd 1 rfl | exact (P4.from_ (((From.rfl_.next D39).next D53).next D77)).rd 2 rfl | exact (P4.from_ (((From.rfl_.next D39).next D53).next D77)).rd 3 rfl | exact (P4.from_ (((From.rfl_.next D39).next D53).next D77)).rd 4 rfl | exact (P4.from_ (((From.rfl_.next D39).next D53).next D77)).rd 5 rfl | exact (P4.from_ (((From.rfl_.next D39).next D53).next D77)).pre3) | (first | exact (P7.from_ (((From.rfl_.next D39).next D53).next D77)).whole | exact (P7.from_ (((From.rfl_.next D39).next D53).next D77)).rd 0 rfl | exact (P7.from_ (((From.rfl_.next D39).next D53).next D77)).rd 1 rfl | exact (P7.from_ (((From.rfl_.next D39).next D53).next D77)).rd 2 rfl))) rfl
                                                                        refine ⟨?_, ?_⟩
                                                                        · intro w78 D78
                                                                          rintro _ rfl
                                                                          show OpOK _ _ _ _ _ _ _
                                                                          exact ok_gpure rfl (ro_move (v := .int _ _) rfl) rfl
                                                                        refine ⟨?_, ?_⟩
                                                                        · intro w79 D79
                                                                          rintro _ rfl _ rfl _ rfl
                                                                          show OpOK _ _ _ _ _ _ _
                                                                          exact ok_gpure rfl (ro_indexAddr EntAgain_e23 rfl rfl (by omega)) rfl
                                                                        refine ⟨?_, ?_⟩
                                                                        · intro w80 D80
                                                                          rintro _ rfl _ rfl
                                                                          show OpOK _ _ _ _ _ _ _
                                                                          exact ok_gpure rfl (ro_fieldAddr EntAgain_f63_0 rfl) rfl
                                                                        refine ⟨?_, ?_⟩
                                                                        · intro w81 D81
                                                                          rintro _ rfl _ rfl
                                                                          show OpOK _ _ _ _ _ _ _
                                                                          exact ok_gpure rfl (ro_load EntAgain_g3 rfl (by first | exact rangeF (((From.rfl_.next D39).next D53).next D81) (hyc _ hpos) 0 _ rfl | exact rangeF (((From.rfl_.next D39).next D53).next D81) (hyc _ hpos) 1 _ rfl)) rfl
                                                                        refine ⟨?_, ?_⟩
                                                                        · intro w82 D82
                                                                          rintro _ rfl
                                                                          show OpOK _ _ _ _ _ _ _
                                                                          exact ok_gpure rfl (ro_fieldAddr EntAgain_f27_3 rfl) rfl
                                                                        refine ⟨?_, ?_⟩
                                                                        · intro w83 D83
                                                                          rintro _ rfl _ rfl
                                                                          show OpOK _ _ _ _ _ _ _
                                                                          exact ok_gpure rfl (ro_load EntAgain_g23 rfl (by first | (first | exact (P4.from_ (((From.rfl_.next D39).next D53).next D83)).whole | exact (P4.from_ (((From.rfl_.next D39).next D53).next D83)).rd 0 rfl | exact (P4.from_ (((From.rfl_.next D39).next D53).next D83)).rd 1 rfl | exact (P4.from_ (((From.rfl_.next D39).next D53).next D83)).rd 2 rfl | exact (P4.from_ (((From.rfl_.next D39).next D53).next D83)).rd 3 rfl | exact (P4.from_ (((From.rfl_.next D39).next D53).next D83)).rd 4 rfl | exact (P4.from_ (((From.rfl_.next D39).next D53).next D83)).rd 5 rfl | exact (P4.from_ (((From.rfl_.next D39).next D53).next D83)).pre3) | (first | exact (P7.from_ (((From.rfl_.next D39).next D53).next D83)).whole | exact (P7.from_ (((From.rfl_.next D39).next D53).next D83)).rd 0 rfl | exact (P7.from_ (((From.rfl_.next D39).next D53).next D83)).rd 1 rfl | exact (P7.from_ (((From.rfl_.next D39).next D53).next D83)).rd 2 rfl))) rfl
                                                                        refine ⟨?_, ?_⟩
                                                                        · intro w84 D84
                                                                          rintro _ rfl
                                                                          show OpOK _ _ _ _ _ _ _
                                                                          exact ok_gpure rfl (ro_move (v := .int _ _) rfl) rfl
                                                                        refine ⟨?_, ?_⟩
                                                                        · intro w85 D85
                                                                          rintro _ rfl _ rfl _ rfl
                                                                          show OpOK _ _ _ _ _ _ _
                                                                          exact ok_gpure rfl (ro_indexAddrN EntAgain_e23 rfl rfl (by omega)) rfl
                                                                        refine ⟨?_, ?_⟩
                                                                        · intro w86 D86
                                                                          rintro _ rfl _ rfl
                                                                          show OpOK _ _ _ _ _ _ _
                                                                          exact ok_gpure rfl (ro_fieldAddr EntAgain_f63_0 rfl) rfl
                                                                        refine ⟨?_, ?_⟩
                                                                        · intro w87 D87
                                                                          rintro _ rfl _ rfl
                                                                          show OpOK _ _ _ _ _ _ _
                                                                          exact ok_gpure rfl (ro_load EntAgain_g3 rfl (by first | exact rangeF (((hB.next D39).next D53).next D87) (hel2 j (by omega)) 0 _ rfl | exact rangeF (((hB.next D39).next D53).next D87) (hel2 j (by omega)) 1 _ rfl)) rfl
                                                                        refine ⟨?_, ?_⟩
                                                                        · intro w88 D88
                                                                          rintro _ rfl _ rfl _ rfl
                                                                          show OpOK _ _ _ _ _ _ _
                                                                          exact ok_gpure rfl (ro_bf (ro_neq rfl rfl) (bne_eq_false_iff_eq.2 hyi)) rfl
                                                                        refine ⟨?_, ?_⟩
                                                                        · intro w89 D89
                                                                          rintro _ rfl _ rfl
                                                                          show OpOK _ _ _ _ _ _ _
                                                                          exact ok_pure (ro_pickF (v := .bool _) rfl rfl) rfl
                                                                        exact trivial
                                                                       case hend =>
                                                                        intro w90 D90
                                                                        rintro _ rfl _ rfl _ rfl _ rfl _ rfl _ rfl _ rfl _ rfl _ rfl _ rfl _ rfl _ rfl _ rfl _ rfl _ rfl _ rfl _ rfl _ rfl _ rfl _ rfl _ rfl _ rfl _ rfl _ rfl _ rfl _ rfl _ rfl _ rfl _ rfl _ rfl _ rfl _ rfl _ rfl _ rfl _ rfl
                                                                        show St _ _ _ _ _ _ _
                                                                        refine st_nil ?_
                                                                        refine nx_then ?_
                                                                        refine cd_condF rfl ?_
                                                                        refine cd_skip ?_
                                                                        refine nx_block ?_
                                                                        refine nx_then ?_
                                                                        refine cd_region ?_
                                                                        refine st_val (ro_move (v := .int _ _) rfl) ?_
                                                                        refine st_val (ro_addN (b := 1) rfl rfl (by omega)) ?_
                                                                        refine st_val (ro_assign (v := .int _ _) rfl) ?_
                                                                        refine st_nil ?_
                                                                        refine nx_cut (j + 1) ⟨(by first | rfl | (refine int_eq ?_; omega)), trivial⟩ (by (iterate 127 refine agr_cons rfl ?_); exact agr_rfl) ⟨?_, ?_⟩
                                                                        · exact ⟨by omega, hys.from_ (((From.rfl_.next D39).next D53).next D90), P4.from_ (((From.rfl_.next D39).next D53).next D90), P7.from_ (((From.rfl_.next D39).next D53).next D90), (((hB.next D39).next D53).next D90)⟩
                                                                        · omega
                                                         · (try first | replace Q28 := bn_t Q28 | replace Q28 := bn_f Q28)
                                                           (try first | replace Q28 := bx_t Q28 | replace Q28 := bx_f Q28 | replace Q28 := be_t Q28 | replace Q28 := be_f Q28 | replace Q28 := of_decide_eq_true Q28 | replace Q28 := of_decide_eq_false Q28)
                                                           first
                                                            | (exfalso; first | first | omega | (simp at *; done) | contradiction | (cases Q28; done))
                                                            | skip
                                                              refine cd_exit ?_
                                                              refine ex_then ?_
                                                              refine ex_then ?_
                                                              refine ex_block ?_
                                                              refine nx_then ?_
                                                              refine cd_seq ?_
                                                              refine cd_region ?_
                                                              refine st_val (ro_fieldAddr EntAgain_f27_0 rfl) ?_
                                                              refine st_val (ro_loadA (cs := [_, _, _]) EntAgain_g25 EntAgain_z25 rfl (by first | (first | exact (P4.from_ From.rfl_).whole | exact (P4.from_ From.rfl_).rd 0 rfl | exact (P4.from_ From.rfl_).rd 1 rfl | exact (P4.from_ From.rfl_).rd 2 rfl | exact (P4.from_ From.rfl_).rd 3 rfl | exact (P4.from_ From.rfl_).rd 4 rfl | exact (P4.from_ From.rfl_).rd 5 rfl | exact (P4.from_ From.rfl_).pre3) | (first | exact (P7.from_ From.rfl_).whole | exact (P7.from_ From.rfl_).rd 0 rfl | exact (P7.from_ From.rfl_).rd 1 rfl | exact (P7.from_ From.rfl_).rd 2 rfl))) ?_
                                                              refine st_val (ro_fieldAddr EntAgain_f27_0 rfl) ?_
                                                              refine st_val (ro_fieldAddr EntAgain_f25_0 rfl) ?_
                                                              refine st_val (ro_load EntAgain_g3 rfl (by first | (first | exact (P4.from_ From.rfl_).whole | exact (P4.from_ From.rfl_).rd 0 rfl | exact (P4.from_ From.rfl_).rd 1 rfl | exact (P4.from_ From.rfl_).rd 2 rfl | exact (P4.from_ From.rfl_).rd 3 rfl | exact (P4.from_ From.rfl_).rd 4 rfl | exact (P4.from_ From.rfl_).rd 5 rfl | exact (P4.from_ From.rfl_).pre3) | (first | exact (P7.from_ From.rfl_).whole | exact (P7.from_ From.rfl_).rd 0 rfl | exact (P7.from_ From.rfl_).rd 1 rfl | exact (P7.from_ From.rfl_).rd 2 rfl))) ?_
                                                              refine st_val (ro_fieldAddr EntAgain_f27_0 rfl) ?_
                                                              refine st_val (ro_fieldAddr EntAgain_f25_1 rfl) ?_
                                                              refine st_val (ro_load EntAgain_g3 rfl (by first | (first | exact (P4.from_ From.rfl_).whole | exact (P4.from_ From.rfl_).rd 0 rfl | exact (P4.from_ From.rfl_).rd 1 rfl | exact (P4.from_ From.rfl_).rd 2 rfl | exact (P4.from_ From.rfl_).rd 3 rfl | exact (P4.from_ From.rfl_).rd 4 rfl | exact (P4.from_ From.rfl_).rd 5 rfl | exact (P4.from_ From.rfl_).pre3) | (first | exact (P7.from_ From.rfl_).whole | exact (P7.from_ From.rfl_).rd 0 rfl | exact (P7.from_ From.rfl_).rd 1 rfl | exact (P7.from_ From.rfl_).rd 2 rfl))) ?_
                                                              refine st_val (ro_fieldAddr EntAgain_f27_0 rfl) ?_
                                                              refine st_val (ro_fieldAddr EntAgain_f25_2 rfl) ?_
                                                              refine st_val (ro_load EntAgain_g23 rfl (by first | (first | exact (P4.from_ From.rfl_).whole | exact (P4.from_ From.rfl_).rd 0 rfl | exact (P4.from_ From.rfl_).rd 1 rfl | exact (P4.from_ From.rfl_).rd 2 rfl | exact (P4.from_ From.rfl_).rd 3 rfl | exact (P4.from_ From.rfl_).rd 4 rfl | exact (P4.from_ From.rfl_).rd 5 rfl | exact (P4.from_ From.rfl_).pre3) | (first | exact (P7.from_ From.rfl_).whole | exact (P7.from_ From.rfl_).rd 0 rfl | exact (P7.from_ From.rfl_).rd 1 rfl | exact (P7.from_ From.rfl_).rd 2 rfl))) ?_
                                                              refine st_call EntAgain_k36 (merge_is B T B T A1 A1 _ _ c1 c1 xs xs xs _ (hat.log.from_ hB) (hat.log.from_ hB) (by omega) (merge_own hm)) ?_
                                                              rintro v168 w91 ⟨A168, c168, rfl, hx168, E168⟩
                                                              refine st_val (ro_move (v := .tuple _) rfl) ?_
                                                              refine st_val (ro_extract rfl rfl) ?_
                                                              refine st_val (ro_extract rfl rfl) ?_
                                                              refine st_val (ro_extract rfl rfl) ?_
                                                              have hl13 := (P4.from_ (From.rfl_.next E168)).lt
                                                              refine st_alloc EntAgain_o25 ?_
                                                              intro b13 w92 E13 hb13 hk13
                                                              have hg13 : w.heap.size ≤ b13 := by rw [hb13]; exact ((hB.next E168)).size
                                                              refine st_putW (vs := [_, _, _]) EntAgain_z25 rfl rfl (by simp [Value.oneCell']) (hk13) rfl ?_
                                                              intro w93 O19 P19
                                                              replace P4 := (P4.from_ ((From.rfl_.next E168).next E13)).only O19 (by omega)
                                                              refine st_val (ro_assign (v := .bool _) rfl) ?_
                                                              refine st_val (ro_assign (v := .int _ _) rfl) ?_
                                                              refine st_nil ?_
                                                              refine nx_then ?_
                                                              refine cd_seq ?_
                                                              refine cd_region ?_
                                                              refine st_val (ro_move (v := .int _ _) rfl) ?_
                                                              refine st_call EntAgain_k23 (Rt.of (errnum_any _ _)) ?_
                                                              rintro v173 w94 ⟨rfl, rfl⟩
                                                              refine st_val (ro_neq rfl rfl) ?_
                                                              refine st_val (ro_move (v := .bool _) rfl) ?_
                                                              refine st_split (t := 175) rfl (fun Q95 => ?_) (fun Q95 => ?_)
                                                              · (try first | replace Q95 := bn_t Q95 | replace Q95 := bn_f Q95)
                                                                (try first | replace Q95 := bx_t Q95 | replace Q95 := bx_f Q95 | replace Q95 := be_t Q95 | replace Q95 := be_f Q95 | replace Q95 := of_decide_eq_true Q95 | replace Q95 := of_decide_eq_false Q95)
                                                                first
                                                                 | (exfalso; first | first | omega | (simp at *; done) | contradiction | (cases Q95; done))
                                                                 | skip
                                                                   refine st_gno rfl rfl ?_
                                                                   refine st_val (ro_pickT (v := .bool _) rfl rfl) ?_
                                                                   refine st_val (ro_move (v := .bool _) rfl) ?_
                                                                   refine st_gno rfl rfl ?_
                                                                   refine st_gno rfl rfl ?_
                                                                   refine st_gno rfl rfl ?_
                                                                   refine st_gno rfl rfl ?_
                                                                   refine st_gno rfl rfl ?_
                                                                   refine st_val (ro_pickT (v := .bool _) rfl rfl) ?_
                                                                   refine st_nil ?_
                                                                   refine nx_then ?_
                                                                   refine cd_condT rfl ?_
                                                                   refine cd_seq ?_
                                                                   refine cd_region ?_
                                                                   refine st_val (ro_assign (v := .bool _) rfl) ?_
                                                                   refine st_nil ?_
                                                                   refine nx_then ?_
                                                                   refine cd_ret ?_
                                                                   refine rt_block ?_
                                                                   refine rt_then ?_
                                                                   refine rt_then ?_
                                                                   refine rt_block ?_
                                                                   refine rt_then ?_
                                                                   refine res1 (v := .bool _) rfl rfl ?_
                                                                   exact ⟨rfl, (((hB.next E168).next E13).only O19 (hg13))⟩
                                                              · (try first | replace Q95 := bn_t Q95 | replace Q95 := bn_f Q95)
                                                                (try first | replace Q95 := bx_t Q95 | replace Q95 := bx_f Q95 | replace Q95 := be_t Q95 | replace Q95 := be_f Q95 | replace Q95 := of_decide_eq_true Q95 | replace Q95 := of_decide_eq_false Q95)
                                                                first
                                                                 | (exfalso; first | first | omega | (simp at *; done) | contradiction | (cases Q95; done))
                                                                 | skip
                                                                   refine st_unguard rfl ?_
                                                                   refine st_val (ro_move (v := .bool _) rfl) ?_
                                                                   refine st_val (ro_pickF (v := .bool _) rfl rfl) ?_
                                                                   refine st_val (ro_move (v := .bool _) rfl) ?_
                                                                   refine st_split (t := 178) rfl (fun Q96 => ?_) (fun Q96 => ?_)
                                                                   · (try first | replace Q96 := bn_t Q96 | replace Q96 := bn_f Q96)
                                                                     (try first | replace Q96 := bx_t Q96 | replace Q96 := bx_f Q96 | replace Q96 := be_t Q96 | replace Q96 := be_f Q96 | replace Q96 := of_decide_eq_true Q96 | replace Q96 := of_decide_eq_false Q96)
                                                                     first
                                                                      | (exfalso; first | first | omega | (simp at *; done) | contradiction | (cases Q96; done))
                                                                      | skip
                                                                        refine st_gno rfl rfl ?_
                                                                        refine st_gno rfl rfl ?_
                                                                        refine st_gno rfl rfl ?_
                                                                        refine st_gno rfl rfl ?_
                                                                        refine st_gno rfl rfl ?_
                                                                        refine st_val (ro_pickT (v := .bool _) rfl rfl) ?_
                                                                        refine st_nil ?_
                                                                        refine nx_then ?_
                                                                        refine cd_condT rfl ?_
                                                                        refine cd_seq ?_
                                                                        refine cd_region ?_
                                                                        refine st_val (ro_assign (v := .bool _) rfl) ?_
                                                                        refine st_nil ?_
                                                                        refine nx_then ?_
                                                                        refine cd_ret ?_
                                                                        refine rt_block ?_
                                                                        refine rt_then ?_
                                                                        refine rt_then ?_
                                                                        refine rt_block ?_
                                                                        refine rt_then ?_
                                                                        refine res1 (v := .bool _) rfl rfl ?_
                                                                        exact ⟨rfl, (((hB.next E168).next E13).only O19 (hg13))⟩
                                                                   · (try first | replace Q96 := bn_t Q96 | replace Q96 := bn_f Q96)
                                                                     (try first | replace Q96 := bx_t Q96 | replace Q96 := bx_f Q96 | replace Q96 := be_t Q96 | replace Q96 := be_f Q96 | replace Q96 := of_decide_eq_true Q96 | replace Q96 := of_decide_eq_false Q96)
                                                                     first
                                                                      | (exfalso; first | first | omega | (simp at *; done) | contradiction | (cases Q96; done))
                                                                      | skip
                                                                        refine st_unguard rfl ?_
                                                                        refine st_val (ro_loadA (cs := [_, _, _]) EntAgain_g25 EntAgain_z25 rfl (by exact (P19.from_ From.rfl_).whole)) ?_
                                                                        refine st_unguard rfl ?_
                                                                        refine st_val (ro_fieldAddr EntAgain_f27_0 rfl) ?_
                                                                        refine st_unguard rfl ?_
                                                                        refine st_val (ro_loadA (cs := [_, _, _]) EntAgain_g25 EntAgain_z25 rfl (by first | (first | exact (P4.from_ From.rfl_).whole | exact (P4.from_ From.rfl_).rd 0 rfl | exact (P4.from_ From.rfl_).rd 1 rfl | exact (P4.from_ From.rfl_).rd 2 rfl | exact (P4.from_ From.rfl_).rd 3 rfl | exact (P4.from_ From.rfl_).rd 4 rfl | exact (P4.from_ From.rfl_).rd 5 rfl | exact (P4.from_ From.rfl_).pre3) | (first | exact (P7.from_ From.rfl_).whole | exact (P7.from_ From.rfl_).rd 0 rfl | exact (P7.from_ From.rfl_).rd 1 rfl | exact (P7.from_ From.rfl_).rd 2 rfl))) ?_
                                                                        refine st_unguard rfl ?_
                                                                        refine st_call EntAgain_k32 (Rt.of (eqLog_same B T _ _ xs _ (hx168.from_ (((From.rfl_.next E13).only O19 (by omega)).next From.rfl_)) (hat.log.from_ (((hB.next E168).next E13).only O19 (hg13))) (by omega))) ?_
                                                                        rintro v182 w97 ⟨rfl, E182⟩
                                                                        refine st_unguard rfl ?_
                                                                        refine st_val (ro_not rfl) ?_
                                                                        refine st_val (ro_pickF (v := .bool _) rfl rfl) ?_
                                                                        refine st_nil ?_
                                                                        refine nx_then ?_
                                                                        refine cd_cond rfl (fun Q98 => ?_) (fun Q98 => ?_)
                                                                        · (try first | replace Q98 := bn_t Q98 | replace Q98 := bn_f Q98)
                                                                          (try first | replace Q98 := bx_t Q98 | replace Q98 := bx_f Q98 | replace Q98 := be_t Q98 | replace Q98 := be_f Q98 | replace Q98 := of_decide_eq_true Q98 | replace Q98 := of_decide_eq_false Q98)
                                                                          first
                                                                           | (exfalso; first | first | omega | (simp at *; done) | contradiction | (cases Q98; done))
                                                                           | skip
                                                                             refine cd_seq ?_
                                                                             refine cd_region ?_
                                                                             refine st_val (ro_assign (v := .bool _) rfl) ?_
                                                                             refine st_nil ?_
                                                                             refine nx_then ?_
                                                                             refine cd_ret ?_
                                                                             refine rt_block ?_
                                                                             refine rt_then ?_
                                                                             refine rt_then ?_
                                                                             refine rt_block ?_
                                                                             refine rt_then ?_
                                                                             refine res1 (v := .bool _) rfl rfl ?_
                                                                             exact ⟨rfl, ((((hB.next E168).next E13).only O19 (hg13)).next E182)⟩
                                                                        · (try first | replace Q98 := bn_t Q98 | replace Q98 := bn_f Q98)
                                                                          (try first | replace Q98 := bx_t Q98 | replace Q98 := bx_f Q98 | replace Q98 := be_t Q98 | replace Q98 := be_f Q98 | replace Q98 := of_decide_eq_true Q98 | replace Q98 := of_decide_eq_false Q98)
                                                                          first
                                                                           | (exfalso; first | first | omega | (simp at *; done) | contradiction | (cases Q98; done))
                                                                           | skip
                                                                             refine cd_skip ?_
                                                                             refine nx_block ?_
                                                                             refine nx_then ?_
                                                                             refine cd_region ?_
                                                                             refine st_val (ro_move (v := .int _ _) rfl) ?_
                                                                             refine st_val (ro_addN (b := 1) rfl rfl (by omega)) ?_
                                                                             refine st_val (ro_assign (v := .int _ _) rfl) ?_
                                                                             refine st_nil ?_
                                                                             refine nx_cut (k + 1) ⟨(by first | rfl | (refine int_eq ?_; omega)), trivial⟩ (by (iterate 382 refine agr_cons rfl ?_); exact agr_rfl) ⟨?_, ?_⟩
                                                                             · exact ⟨by omega, ((((hB.next E168).next E13).only O19 (hg13)).next E182)⟩
                                                                             · omega
       · (try first | replace Q3 := bn_t Q3 | replace Q3 := bn_f Q3)
         (try first | replace Q3 := bx_t Q3 | replace Q3 := bx_f Q3 | replace Q3 := be_t Q3 | replace Q3 := be_f Q3 | replace Q3 := of_decide_eq_true Q3 | replace Q3 := of_decide_eq_false Q3)
         first
          | (exfalso; first | first | omega | (simp at *; done) | contradiction | (cases Q3; done))
          | skip
            refine cd_exit ?_
            refine ex_then ?_
            refine ex_then ?_
            refine ex_block ?_
            refine nx_then ?_
            refine cd_seq ?_
            refine cd_region ?_
            refine st_call EntAgain_k35 (Rt.of (wakes_any _)) ?_
            rintro v185 w99 ⟨rfl, E185⟩
            refine st_val (ro_assign (v := .bool _) rfl) ?_
            refine st_nil ?_
            refine nx_then ?_
            refine cd_ret ?_
            refine res1 (v := .bool _) rfl rfl ?_
            exact ⟨rfl, (hB.next E185)⟩
  · (try first | replace Q2 := bn_t Q2 | replace Q2 := bn_f Q2)
    (try first | replace Q2 := bx_t Q2 | replace Q2 := bx_f Q2 | replace Q2 := be_t Q2 | replace Q2 := be_f Q2 | replace Q2 := of_decide_eq_true Q2 | replace Q2 := of_decide_eq_false Q2)
    first
     | (exfalso; first | first | omega | (simp at *; done) | contradiction | (cases Q2; done))
     | skip
       refine st_gno rfl rfl ?_
       refine st_gno rfl rfl ?_
       refine st_val (ro_pickF (v := .bool _) rfl rfl) ?_
       refine st_nil ?_
       refine nx_then ?_
       refine cd_condF rfl ?_
       refine cd_exit ?_
       refine ex_then ?_
       refine ex_then ?_
       refine ex_block ?_
       refine nx_then ?_
       refine cd_seq ?_
       refine cd_region ?_
       refine st_call EntAgain_k35 (Rt.of (wakes_any _)) ?_
       rintro v185 w100 ⟨rfl, E185⟩
       refine st_val (ro_assign (v := .bool _) rfl) ?_
       refine st_nil ?_
       refine nx_then ?_
       refine cd_ret ?_
       refine res1 (v := .bool _) rfl rfl ?_
       exact ⟨rfl, (hB.next E185)⟩
set_option maxRecDepth 100000 in
theorem EntriesAgain_lifted (os : Os) (started : os.Started) (H : Type) (enc : TypeId × Value → H) :
    ReturnsInHanded {} Try.checked os 4 .any (Rows.entriesAgainSpec.pre6 enc Try.prog Try.f4 Rows.entriesAgainRow.domain false) (Rows.entriesAgainSpec.post enc Try.prog Try.f4 false true false false) := by
  refine returnsInHanded_of_change_sized (C := Try.checked) Try.own started (by kernel_rfl) Try.func4
    (ChangeSpec.witness6 (enc := enc) (C := Try.checked) false ⟨#[], #[.slice none 0 0], []⟩ 8 (by kernel_rfl) (by kernel_rfl) (by kernel_rfl) (by kernel_rfl)) ?_
  intro W base args ds gs before hval hW _ hsz _
  exact law_step 4 Try.f4 22 4 Rows.entriesAgainSpec Try.params4 (by kernel_rfl) Try.underlying4 rfl (fun _ => rfl) (by kernel_rfl) (of_decide_eq_true (by kernel_rfl)) (walk_rt again_law) W base args ds gs before hval hW hsz

theorem EntriesAgain_holds : Rows.EntriesAgainSaid :=
  OpenClaim.holds_of_wide 4 Try.f4 rfl rfl rfl rfl rfl rfl rfl ⟨rfl, rfl, rfl, rfl, rfl⟩ rfl rfl rfl rfl rfl (by kernel_rfl) Try.func4 (by kernel_rfl)
    (of_decide_eq_true (by kernel_rfl)) (by unfold Func.isWrapper; first | (rw [if_pos (by decide +kernel)]; kernel_rfl) | (rw [if_neg (by decide +kernel)]; exact ⟨rfl, rfl⟩))
    (fun os started H enc _ => EntriesAgain_lifted os started H enc)
#print axioms EntriesAgain_holds

end Go.Proofs.Ytnnknoohhoifbaa
