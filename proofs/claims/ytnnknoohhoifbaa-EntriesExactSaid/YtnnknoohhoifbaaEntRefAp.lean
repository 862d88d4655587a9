/- Walks: the reference's Append. -/
import Derived.Test.YtnnknoohhoifbaaEntCopy
namespace Go.Proofs.Ytnnknoohhoifbaa
open Go.RowKit

theorem Blk.grownA {w w' : World} {g : Nat} {t : TypeId} {cs : Array Value} {row : Option Nat} (h : Blk w g t cs) (hg : w.grownBy w' row) (hne : some g ≠ row) : Blk w' g t cs := (hg.block g h.lt hne).trans h
/-- append(s, x...) of entries onto a row of the call's own: nothing but that row may have changed -/
theorem wpList_pushe2 {ops : Array Oper} {rest : List Oper} {o : Oper} {a : Act} {Q : Exit → Act → World → Prop} {wr : World} (a0 : World) (hgd : o.guard = none) (s x : Operand) (t : TypeId)
    (ho : o.op = .call { callee := .builtin .append, args := #[s, x], argTypes := #[t, t] }) (ht : Try.prog.underlying t = some (.slice 63))
    (v : Value) (n : Nat) (xs : List Ent) (hs : a.eval s = v) (hown : wr.ownsRow a0.heap.size 63 3 v n (entV xs)) (hw : From a0 wr) (v2 : Value) (news : List Ent) (hx : a.eval x = v2) (hr : Ents wr v2 news)
    (hroom : n + news.length ≤ 1000000000000)
    (h : ∀ v' w', w'.ownsRow a0.heap.size 63 3 v' (n + news.length) (entV (xs ++ news)) → From a0 w' → wr.grownBy w' v.ownBlock → wpList Try.prog ops Q rest (a.put o.dst v') w') : wpList Try.prog ops Q (o :: rest) a wr := by
  obtain ⟨i0, hi0, hz0, hz1, hz2⟩ := info_parts ent_info
  have hr0 := hr
  obtain ⟨A, cap, rfl, hc1, hc2, hc3, hp⟩ := hr
  cases A with
  | none =>
    have h0 := hc3 rfl
    subst h0
    have hnn : news = [] := List.eq_nil_of_length_eq_zero (by omega)
    subst hnn
    refine wpList_append_own_none (P := Try.prog) hgd s x t ho a0.heap.size 63 i0 3 ht hi0 v n (entV xs) hs hown hx (h v wr ?_ hw ⟨rfl, rfl, rfl, Nat.le_refl _, fun _ _ _ => rfl⟩)
    simpa using hown
  | some ad =>
    refine wpList_append_own (P := Try.prog) _ hgd s x t ho a0.heap.size 63 i0 _ 3 32 ht hi0 hz0 hz1 hz2 rfl (by decide) v n (entV xs) hs hown ad news.length cap (entV news) hx (entV_length news) (hr0.cellV rfl) (entV_one news) (by unfold maxLen; omega) (by omega) hw.size ?_
    intro v' w' hown' hg _
    rw [← entV_append] at hown'
    exact h v' w' hown' (hw.grew hg (fun k hk => (hown.lt k hk).1)) hg

theorem own_far {w : World} {base size n g : Nat} {e t : TypeId} {v : Value} {xs : List Value} {cs : Array Value} (h : w.ownsRow base e size v n xs) (hb : Blk w g t cs) (hne : t ≠ e) (i : Nat) (u : Value) : (w.setCell ⟨g, i, none⟩ u).ownsRow base e size v n xs := by
  refine ⟨h.1, ?_⟩
  rcases h.2 with h2 | ⟨g', cap, cur, hv, hg, hh, r⟩
  · exact .inl h2
  · refine .inr ⟨g', cap, cur, hv, hg, ?_, r⟩
    have hd : g' ≠ g := by
      rintro rfl
      unfold Blk at hb
      rw [hb] at hh
      simp only [Option.some.injEq, Obj.cells.injEq] at hh
      exact hne hh.2.1
    rw [Below.heap_setCell w ⟨g, i, none⟩ u g' hd]
    exact hh
def refApErr (B T : Int) (xs ys : List Ent) : Int := if runs ys (lastI B xs) (lastT T xs) = true then (if xs.length + ys.length ≤ 512 then 0 else 6) else 1
theorem refApErr_eq {B T : Int} {xs ys : List Ent} (hm : mayLog B T xs = true) : apErr B T xs ys = refApErr B T xs ys := by unfold apErr refApErr; rw [if_pos hm]

set_option maxRecDepth 100000 in
set_option maxHeartbeats 2000000 in
theorem refAppend_any (B T : Int) (v u : Value) (xs ys : List Ent) (w : World) (h : Ents w v xs) (hu : Ents w u ys) (hm : mayLog B T xs = true) (hy : ys.length ≤ 400000000000) :
    Calls Try.prog 17 #[.agg #[.int .i64 B, .int .i64 T, v], u] w fun e w' => ∃ L, e = .returned (.tuple #[L, .int .i64 (refApErr B T xs ys)]) ∧ ApGot w w' B T (xs ++ ys) (refApErr B T xs ys) L ∧ From w w' := by
  obtain ⟨f0, f1, f2, hbb, hwb⟩ := box_log (w := w) (B := B) (T := T) (v := v) (t := 25)
  have hlo := fun w' (hw : From w w') => refLast_any B T v xs w' (h.from_ hw)
  have h2 := boxed2_from w B T v
  have hb2 := boxed_from2 w B T v
  have h22 : From (boxed2 w B T v) (boxed2 w B T v) := From.rfl_
  have hres : ∀ w1, From (boxed2 w B T v) w1 → Blk w1 (w.heap.size + 1) 25 #[.int .i64 0, .int .i64 0, .slice none 0 0] := fun w1 h => boxed2_res h
  have HRES := Lib.hid hres
  have HE := Lib.hid h
  have HU := Lib.hid hu
  have hdef : refApErr B T xs ys = refApErr B T xs ys := rfl
  conv at hdef => rhs; unfold refApErr
  simp only [boxed, boxed2] at h2 hb2 h22 HRES
  obtain ⟨A, cap, rfl, hc1, hc2, hc3, hrow⟩ := h
  obtain ⟨A2, cap2, rfl, hd1, hd2, hd3, hrow2⟩ := hu
  clear hc3 hrow hd3 hrow2 hres
  obtain ⟨hl, hB0, hB1, hx⟩ := may_lastI hm
  rw [hl] at hlo hdef
  have hru := fun w' (hw : From w w') => runs_any (B + xs.length) (lastT T xs) _ ys w' (HU.out.from_ hw) (by omega) (by omega) (by omega)
  have HL := Lib.hid hlo
  clear hlo hm hl
  rcases hr : runs ys (B + xs.length) (lastT T xs) with _ | _
  · rw [hr] at hru hdef
    rw [if_neg (by simp)] at hdef
    rw [hdef]
    have HR := Lib.hid hru
    clear hr hdef hru
    go_enter Try.func17, Try.ntmps17
    go_wp2_with (first
      | (go_at_call 16; (with_reducible refine (HL.out _ h2).mono ?_); rintro e w2 ⟨rfl, hb3⟩; have hw2 := From.next (a := w) h2 hb3; have h23 := From.next (a := _) h22 hb3; have hbw2 := From.next (a := _) hb2 hb3)
      | (go_at_call 39; (with_reducible refine (HR.out _ hw2).mono ?_); rintro e w3 ⟨rfl, hb4⟩; have hw3 := From.next (a := w) hw2 hb4; have h24 := From.next (a := _) h23 hb4; have hbw3 := From.next (a := _) hbw2 hb4; have hk := HRES.out w3 h24; obtain ⟨⟨s0, s1, s2⟩, t0, t1, t2⟩ := res_facts hk))
    have hk2 := HRES.out w3 h24
    obtain ⟨x0, x1, x2⟩ := put3_cells hk2 (.int .i64 0) (.int .i64 0) (.slice none 0 0)
    simp only [put3] at x0 x1 x2
    (try simp only [Exit.inBlock, Exit.then])
    refine bodyPost_ret (v := .tuple #[.agg #[.int .i64 0, .int .i64 0, .slice none 0 0], .int .i64 1]) (by simp [results, Try.results17, go_sem, x0, x1, x2]) rfl ?_
    exact ⟨_, rfl, ⟨fun _ => rfl, fun h => absurd h (by decide)⟩, put3_from hw3 (by omega)⟩
  · rw [hr] at hru hdef
    rw [if_pos rfl] at hdef
    have HR := Lib.hid hru
    by_cases hsum : xs.length + ys.length ≤ 512
    · rw [if_pos hsum] at hdef
      rw [hdef]
      have hd : decide ((512 : Int) < (xs.length : Int) + (ys.length : Int)) = false := by simp; omega
      have hcp := fun w' (hw : From w w') => copyLog_any B T _ xs w' (HE.out.from_ hw) (by omega)
      have HCP := Lib.hid hcp
      have hroom : xs.length + ys.length ≤ 1000000000000 := by omega
      clear hr hdef hru hcp hsum
      go_enter Try.func17, Try.ntmps17
      go_wp2_with (first
        | (go_at_call 16; (with_reducible refine (HL.out _ h2).mono ?_); rintro e w2 ⟨rfl, hb3⟩; have hw2 := From.next (a := w) h2 hb3; have h23 := From.next (a := _) h22 hb3; have hbw2 := From.next (a := _) hb2 hb3)
        | (go_at_call 39; (with_reducible refine (HR.out _ hw2).mono ?_); rintro e w3 ⟨rfl, hb4⟩; have hw3 := From.next (a := w) hw2 hb4; have h24 := From.next (a := _) h23 hb4; have hbw3 := From.next (a := _) hbw2 hb4)
        | (go_at_call 13; (with_reducible refine (HCP.out _ hw3).mono ?_); rintro e w4 ⟨v4, rfl, hown4, hb5⟩; obtain ⟨A4, c4, rfl⟩ := own_form hown4; have HO := Lib.hid hown4; clear hown4; have hw4 := From.next (a := w) hw3 hb5; have h25 := From.next (a := _) h24 hb5; have h34 := From.next (a := w3) From.rfl_ hb5; have h34n := From.new h34 (.cells #[.int .i64 B, .int .i64 T, .slice A4 xs.length c4] 25))
        | (at_builtin; refine wpList_pushe2 w3 rfl (.tmp 31) (.tmp 32) 23 rfl Try.underlying23 _ xs.length xs rfl (HO.out.alloc _) h34n _ ys rfl (HU.out.from_ (hw3.next h34n)) hroom ?_; intro v5 w5 hown5 hw5 hgr; obtain ⟨A5, c5, rfl⟩ := own_form hown5; have HO5 := Lib.hid hown5; clear hown5; have hbk := (Blk.new w4 25 #[.int .i64 B, .int .i64 T, .slice A4 xs.length c4]).grownA hgr (fun e => Nat.lt_irrefl _ (HO.out.lt _ e.symm).2); have hrs := HRES.out w5 (h24.next hw5); have q1 := (res_facts hbk).1.2.2; have q2 := (res_facts hbk).2.2.2; have b3 := hbk.set_ 2 (.slice A5 (xs.length + ys.length) c5); have r0 := b3.cell 0; have r1 := b3.cell 1; have r2 := b3.cell 2; simp at r0 r1 r2; have hlt := h25.size; have hrs2 := hrs.far (p := ⟨w4.heap.size, 2, none⟩) (by intro e; simp at e hlt; omega) (.slice A5 (xs.length + ys.length) c5); obtain ⟨⟨s0, s1, s2⟩, t0, t1, t2⟩ := res_facts hrs2))
      obtain ⟨x0, x1, x2⟩ := put3_cells hrs2 (.int .i64 B) (.int .i64 T) (.slice A5 (xs.length + ys.length) c5)
      simp only [put3] at x0 x1 x2
      (try simp only [Exit.inBlock, Exit.then])
      refine bodyPost_ret (v := .tuple #[.agg #[.int .i64 B, .int .i64 T, .slice A5 (xs.length + ys.length) c5], .int .i64 0]) (by simp [results, Try.results17, go_sem, x0, x1, x2]) rfl ?_
      have hsz2 : w.heap.size + 2 ≤ w3.heap.size := by simpa using h24.size
      have h34s := h34.size
      refine ⟨_, rfl, ⟨fun h => absurd rfl h, fun _ => ⟨_, rfl, ?_⟩⟩, put3_from (From.set_ (p := ⟨w4.heap.size, 2, none⟩) (hw3.next hw5) (by show w.heap.size ≤ w4.heap.size; omega) _) (by omega)⟩
      rw [List.length_append]
      refine ownsRow_le (base := w3.heap.size) ?_ (by omega)
      refine ownsRow_setCell_below (ownsRow_setCell_below (ownsRow_setCell_below (own_far HO5.out hbk (by decide) 2 _) ?_ _) ?_ _) ?_ _
      all_goals (show _ < w3.heap.size; simp; omega)
    · rw [if_neg hsum] at hdef
      rw [hdef]
      have hd : decide ((512 : Int) < (xs.length : Int) + (ys.length : Int)) = true := by simp; omega
      clear hr hdef hru hsum
      go_enter Try.func17, Try.ntmps17
      go_wp2_with (first
        | (go_at_call 16; (with_reducible refine (HL.out _ h2).mono ?_); rintro e w2 ⟨rfl, hb3⟩; have hw2 := From.next (a := w) h2 hb3; have h23 := From.next (a := _) h22 hb3; have hbw2 := From.next (a := _) hb2 hb3)
        | (go_at_call 39; (with_reducible refine (HR.out _ hw2).mono ?_); rintro e w3 ⟨rfl, hb4⟩; have hw3 := From.next (a := w) hw2 hb4; have h24 := From.next (a := _) h23 hb4; have hbw3 := From.next (a := _) hbw2 hb4; have hk := HRES.out w3 h24; obtain ⟨⟨s0, s1, s2⟩, t0, t1, t2⟩ := res_facts hk))
      have hk2 := HRES.out w3 h24
      obtain ⟨x0, x1, x2⟩ := put3_cells hk2 (.int .i64 0) (.int .i64 0) (.slice none 0 0)
      simp only [put3] at x0 x1 x2
      (try simp only [Exit.inBlock, Exit.then])
      refine bodyPost_ret (v := .tuple #[.agg #[.int .i64 0, .int .i64 0, .slice none 0 0], .int .i64 6]) (by simp [results, Try.results17, go_sem, x0, x1, x2]) rfl ?_
      exact ⟨_, rfl, ⟨fun _ => rfl, fun h => absurd h (by decide)⟩, put3_from hw3 (by omega)⟩
end Go.Proofs.Ytnnknoohhoifbaa
