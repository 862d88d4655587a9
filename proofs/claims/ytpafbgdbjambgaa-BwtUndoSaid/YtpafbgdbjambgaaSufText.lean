/- suffix: newText. -/
import Derived.Test.YtpafbgdbjambgaaSufHeads
namespace Go.Proofs.Ytpafbgdbjambgaa
open Go.RowKit
open Go.ChangeShapes Go.WideShapes Go.ChangeAt
open Go.Proofs.Ytpafbgdbjambgaa.SA
theorem SufText_e51 : elemQ Try.prog 51 = some (21, 1) := by kernel_rfl
theorem SufText_m51 : makeQ Try.prog 51 = some (21, 4, (.int .i32 0)) := by kernel_rfl
theorem SufText_m58 : makeQ Try.prog 58 = some (4, 1, (.bool false)) := by kernel_rfl
theorem SufText_s3 : (Try.prog.underlying 3).isSome = true := by kernel_rfl
theorem SufText_i21 : Try.prog.underlying 21 = some (.int .i32) := by kernel_rfl
theorem SufText_bT : ∀ (a0 : Option Addr) (a1 a2 : Nat) (a3 : Int) (a4 : Option Addr) (a5 a6 : Nat) (a7 : Option Addr) (a8 a9 : Nat), Try.prog.built 60 [(0, .slice a0 a1 a2), (1, .int .i64 a3), (2, .slice a4 a5 a6), (4, .slice a7 a8 a9)] = some #[.slice a0 a1 a2, .int .i64 a3, .slice a4 a5 a6, .slice none 0 0, .slice a7 a8 a9] := by intros; kernel_rfl
theorem SufText_q51 : litQ Try.prog 51 = some (21, 1, 4, (.int .i32 0)) := by kernel_rfl
theorem SufText_l51 : (elemQ Try.prog 51).isSome = true := by kernel_rfl
theorem SufText_f60_2 : fieldQ Try.prog 60 2 = some 2 := by kernel_rfl
theorem SufText_g58 : aggQ Try.prog 58 = some false := by kernel_rfl
theorem SufText_e58 : elemQ Try.prog 58 = some (4, 1) := by kernel_rfl
theorem SufText_z4 : sizeQ Try.prog 4 = some 1 := by kernel_rfl
theorem SufText_g21 : aggQ Try.prog 21 = some false := by kernel_rfl
theorem SufText_g4 : aggQ Try.prog 4 = some false := by kernel_rfl
theorem SufText_f60_3 : fieldQ Try.prog 60 3 = some 3 := by kernel_rfl
theorem SufText_g51 : aggQ Try.prog 51 = some false := by kernel_rfl
theorem SufText_z51 : sizeQ Try.prog 51 = some 1 := by kernel_rfl
theorem SufText_f60_4 : fieldQ Try.prog 60 4 = some 4 := by kernel_rfl
theorem SufText_z21 : sizeQ Try.prog 21 = some 1 := by kernel_rfl
theorem VJ.rdN {w : World} {g K i : Nat} {t : Nat → Nat} (h : VJ w g K fun i => (t i : Nat)) (hi : i < K) : w.cell? ⟨g, i, none⟩ = some (.int .i32 ((t i : Nat) : Int)) := h.rd hi
theorem blk_ne {w : World} {g g2 t t2 : Nat} {cs cs2 : Array Value} (h : Blk w g t cs) (h2 : Blk w g2 t2 cs2) (hne : t ≠ t2) : g ≠ g2 := by
  rintro rfl
  unfold Blk at h h2
  rw [h] at h2
  simp only [Option.some.injEq, Obj.cells.injEq] at h2
  exact hne h2.2.1
/-- what rises, as far as it is known -/
noncomputable def rT (n : Nat) (t : Nat → Nat) (j : Nat) : Array Value := tabB n fun x => if j ≤ x then rb n t x else false
theorem rT_start {w : World} {q n : Nat} {t : Nat → Nat} (ht : Txt n t) (h : Blk w q 4 ((tabB n fun _ => false).setIfInBounds (n - 1) (.bool true))) : Blk w q 4 (rT n t (n - 1)) := by
  rw [tabB_set] at h
  have e : tabB n (updB (fun _ => false) (n - 1) true) = rT n t (n - 1) := tabB_congr fun x hx => by
    unfold updB
    by_cases e : x = n - 1
    · subst e; rw [if_pos rfl, if_pos (Nat.le_refl _)]; exact (rb_iff.2 (rz_last ht)).symm
    · rw [if_neg e, if_neg (by omega)]
  rwa [e] at h
theorem rT_put {w : World} {q n i : Nat} {t : Nat → Nat} {X : Bool} (hX : rb n t i = X) (h : Blk w q 4 ((rT n t (i + 1)).setIfInBounds i (.bool X))) : Blk w q 4 (rT n t i) := by
  subst hX
  unfold rT at h
  rw [tabB_set] at h
  have e : tabB n (updB (fun x => if i + 1 ≤ x then rb n t x else false) i (rb n t i)) = rT n t i := tabB_congr fun x hx => by
    unfold updB
    by_cases e : x = i
    · subst e; rw [if_pos rfl, if_pos (Nat.le_refl _)]
    · rw [if_neg e]
      show (if i + 1 ≤ x then rb n t x else false) = _
      by_cases h : i + 1 ≤ x
      · rw [if_pos h, if_pos (by omega)]
      · rw [if_neg h, if_neg (by omega)]
  rwa [e] at h
theorem rT_rd {w : World} {q n j i : Nat} {t : Nat → Nat} (h : Blk w q 4 (rT n t j)) (hj : j ≤ i) (hi : i < n) : w.cell? ⟨q, i, none⟩ = some (.bool (rb n t i)) := h.rd i (by unfold rT; rw [tabB_at hi, if_pos hj])
theorem rT_zero {n : Nat} {t : Nat → Nat} : rT n t 0 = tabB n (rb n t) := tabB_congr fun x _ => if_pos (Nat.zero_le _)
theorem rT_size {n j : Nat} {t : Nat → Nat} : (rT n t j).size = n := tabB_size
theorem rb_lt {n i : Nat} {t : Nat → Nat} (h : Txt n t) (hi : i + 1 < n) (hlt : t i < t (i + 1)) : rb n t i = true := rb_iff.2 ((rz_iff h hi).2 (.inl hlt))
theorem rb_gt {n i : Nat} {t : Nat → Nat} (h : Txt n t) (hi : i + 1 < n) (hlt : t (i + 1) < t i) : rb n t i = false := rb_not.2 fun e => by rcases (rz_iff h hi).1 e with a | a <;> omega
theorem rb_eq {n i : Nat} {t : Nat → Nat} (h : Txt n t) (hi : i + 1 < n) (he : t i = t (i + 1)) : rb n t i = rb n t (i + 1) := by
  rw [Bool.eq_iff_iff, rb_iff, rb_iff, rz_iff h hi]
  exact ⟨fun a => a.elim (fun a => by omega) (fun a => a.2), fun a => .inr ⟨he, a⟩⟩
open Classical in
/-- the starts below i -/
noncomputable def stL (n : Nat) (t : Nat → Nat) : Nat → List Nat
  | 0 => []
  | i + 1 => stL n t i ++ if lms n t i then [i] else []
theorem stL_yes {n i : Nat} {t : Nat → Nat} (hi : 0 < i) (hn : i < n) (h1 : rb n t i = true) (h2 : rb n t (i - 1) = false) : stL n t (i + 1) = stL n t i ++ [i] := by
  conv => lhs; unfold stL
  rw [if_pos ⟨hi, hn, rb_iff.1 h1, rb_not.1 h2⟩]
theorem stL_no {n i : Nat} {t : Nat → Nat} (h : rb n t i = false ∨ rb n t (i - 1) = true) : stL n t (i + 1) = stL n t i := by
  conv => lhs; unfold stL
  rw [if_neg, List.append_nil]
  rintro ⟨_, _, a, b⟩
  rcases h with h | h
  · exact rb_not.1 h a
  · exact b (rb_iff.1 h)
theorem stL_one {n : Nat} {t : Nat → Nat} : stL n t 1 = [] := by
  unfold stL
  rw [if_neg (fun h => absurd h.1 (Nat.lt_irrefl 0))]
  rfl
theorem stL_mem {n s : Nat} {t : Nat → Nat} : ∀ {i : Nat}, s ∈ stL n t i ↔ s < i ∧ lms n t s
  | 0 => by simp [stL]
  | i + 1 => by
    unfold stL
    rw [List.mem_append, stL_mem]
    split
    · rename_i h
      constructor
      · rintro (⟨a, b⟩ | a)
        · exact ⟨by omega, b⟩
        · simp only [List.mem_singleton] at a
          subst a
          exact ⟨by omega, h⟩
      · rintro ⟨a, b⟩
        by_cases e : s = i
        · exact .inr (by simp [e])
        · exact .inl ⟨by omega, b⟩
    · rename_i h
      constructor
      · rintro (⟨a, b⟩ | a)
        · exact ⟨by omega, b⟩
        · cases a
      · rintro ⟨a, b⟩
        refine .inl ⟨?_, b⟩
        rcases Nat.lt_or_ge s i with c | c
        · exact c
        · obtain rfl : s = i := by omega
          exact absurd b h
theorem stL_up {n : Nat} {t : Nat → Nat} : ∀ {i : Nat}, (stL n t i).Pairwise (· < ·)
  | 0 => by simp [stL]
  | i + 1 => by
    unfold stL
    rw [List.pairwise_append]
    refine ⟨stL_up, by split <;> simp, fun a ha b hb => ?_⟩
    split at hb
    · simp only [List.mem_singleton] at hb
      subst hb
      exact (stL_mem.1 ha).1
    · cases hb
theorem stL_len {n : Nat} {t : Nat → Nat} : ∀ {i : Nat}, (stL n t i).length ≤ i
  | 0 => by simp [stL]
  | i + 1 => by
    have := stL_len (n := n) (t := t) (i := i)
    unfold stL
    rw [List.length_append]
    split <;> simp <;> omega
noncomputable def stF (n : Nat) (t : Nat → Nat) (k : Nat) : Nat := (stL n t n)[k]?.getD 0
theorem stF_eq {n k : Nat} {t : Nat → Nat} (h : k < (stL n t n).length) : stF n t k = (stL n t n)[k] := by unfold stF; rw [List.getElem?_eq_getElem h]; rfl
theorem stF_starts (n : Nat) (t : Nat → Nat) : Starts n t (stL n t n).length (stF n t) := by
  refine ⟨fun k hk => ?_, fun a b hab hb => ?_, fun s hs => ?_⟩
  · rw [stF_eq hk]; exact (stL_mem.1 (List.getElem_mem hk)).2
  · rw [stF_eq hb, stF_eq (by omega)]
    exact List.pairwise_iff_getElem.1 stL_up a b (by omega) hb hab
  · obtain ⟨k, hk, e⟩ := List.getElem_of_mem (stL_mem.2 ⟨hs.2.1, hs⟩)
    exact ⟨k, hk, by rw [stF_eq hk, e]⟩
theorem stF_row {n : Nat} {t : Nat → Nat} : ((List.range (stL n t n).length).map fun k => ((stF n t k : Nat) : Int)) = (stL n t n).map fun x : Nat => (x : Int) := by
  apply List.ext_getElem
  · simp
  · intro k h1 h2
    have hk : k < (stL n t n).length := by simpa using h2
    simp [stF_eq hk]
/-- how many of the first k symbols are so -/
noncomputable def cT (n K : Nat) (t : Nat → Nat) (k : Nat) : Array Value := tabJ K fun c => ((cnt k fun i => t i = c : Nat) : Int)
theorem cT_zero {n K : Nat} {t : Nat → Nat} : (tabJ K fun _ => 0) = cT n K t 0 := rfl
theorem cT_rd {w : World} {p n K k c : Nat} {t : Nat → Nat} (h : Blk w p 21 (cT n K t k)) (hc : c < K) : w.cell? ⟨p, c, none⟩ = some (.int .i32 (cnt k fun i => t i = c : Nat)) := h.rd c (tabJ_at hc)
theorem cT_put {w : World} {p n K k : Nat} {t : Nat → Nat} (h : Blk w p 21 ((cT n K t k).setIfInBounds (t k) (jV (cnt k (fun i => t i = t k) + 1 : Nat)))) : Blk w p 21 (cT n K t (k + 1)) := by
  unfold cT at h
  rw [tabJ_set] at h
  have e : tabJ K (upd (fun c => ((cnt k fun i => t i = c : Nat) : Int)) (t k) ((cnt k (fun i => t i = t k) + 1 : Nat) : Int)) = cT n K t (k + 1) := tabJ_congr fun c _ => by
    conv => rhs; unfold cnt
    by_cases e : c = t k
    · subst e; rw [upd_same, if_pos rfl]
    · rw [upd_ne _ _ e, if_neg (fun h => e h.symm)]; rfl
  rwa [e] at h
/-- the ends, as far as they are known -/
noncomputable def eT (n K : Nat) (t : Nat → Nat) (c : Nat) : Array Value := tabJ K fun x => if x < c then ((less n t (x + 1) : Nat) : Int) else ((cnt n fun i => t i = x : Nat) : Int)
theorem eT_one {n K : Nat} {t : Nat → Nat} : cT n K t n = eT n K t 1 := tabJ_congr fun c _ => by
  by_cases h : c < 1
  · obtain rfl : c = 0 := by omega
    have e : less n t 0 = 0 := cnt_none fun i _ h => absurd h (by omega)
    have := less_succ (n := n) (t := t) 0
    rw [if_pos (by omega)]
    omega
  · rw [if_neg h]
theorem eT_lo {w : World} {p n K c x : Nat} {t : Nat → Nat} (h : Blk w p 21 (eT n K t c)) (hx : x + 1 = c) (hk : x < K) : w.cell? ⟨p, x, none⟩ = some (.int .i32 (less n t c : Nat)) := h.rd x (by unfold eT; rw [tabJ_at hk, if_pos (by omega), hx])
theorem eT_hi {w : World} {p n K c x : Nat} {t : Nat → Nat} (h : Blk w p 21 (eT n K t c)) (hx : ¬ x < c) (hk : x < K) : w.cell? ⟨p, x, none⟩ = some (.int .i32 (cnt n fun i => t i = x : Nat)) := h.rd x (by unfold eT; rw [tabJ_at hk, if_neg hx])
theorem eT_put {w : World} {p n K c : Nat} {t : Nat → Nat} (h : Blk w p 21 ((eT n K t c).setIfInBounds c (jV (less n t (c + 1) : Nat)))) : Blk w p 21 (eT n K t (c + 1)) := by
  unfold eT at h
  rw [tabJ_set] at h
  have e : tabJ K (upd (fun x => if x < c then ((less n t (x + 1) : Nat) : Int) else ((cnt n fun i => t i = x : Nat) : Int)) c ((less n t (c + 1) : Nat) : Int)) = eT n K t (c + 1) := tabJ_congr fun x _ => by
    by_cases e : x = c
    · subst e; rw [upd_same, if_pos (by omega)]
    · rw [upd_ne _ _ e]
      by_cases h : x < c
      · rw [if_pos h, if_pos (by omega)]
      · rw [if_neg h, if_neg (by omega)]
  rwa [e] at h
theorem eT_all {n K c : Nat} {t : Nat → Nat} (h : K ≤ c) : eT n K t c = tabJ K fun x => ((less n t (x + 1) : Nat) : Int) := tabJ_congr fun x hx => if_pos (by omega)
theorem less_le {n c : Nat} {t : Nat → Nat} : less n t c ≤ n := cnt_le_n n _
set_option maxRecDepth 100000 in
set_option maxHeartbeats 1500000 in
theorem newText_rt (gl n K : Nat) (t : Nat → Nat) (w : World) (hl : VJ w gl n (fun i => (t i : Nat))) (ht : Txt n t) (hkt : ∀ i, i < n → t i < K) (hn : n ≤ 200000) (hK : K ≤ 200000) :
    Rt Try.prog 27 [.slice (some ⟨gl, 0, none⟩) n n, .int .i64 (K : Nat)] w (fun v w' => (∃ b m ss, v = .pointer (some ⟨b, 0, none⟩) ∧ TextAt w' b n K t m ss ∧ Starts n t m ss) ∧ From w w') := by
  have hn0 := ht.pos
  refine enter (n := 147) Try.func27 rfl rfl rfl ?_
  refine cd_seq ?_
  refine cd_region ?_
  refine st_val (ro_assign (v := .pointer _) rfl) ?_
  refine st_nil ?_
  refine nx_then ?_
  refine cd_seq ?_
  apply cd_drawn 10 [(12, eqp _), (13, eqp _), (14, eqp _), (15, eqp _), (16, fun v w' => ∃ q, v = .slice (some ⟨q, 0, none⟩) n n ∧ w.heap.size ≤ q ∧ Blk w' q 4 (tabB n fun _ => false)), (17, eqp _), (18, fun v w' => ∃ p, v = .slice (some ⟨p, 0, none⟩) K K ∧ w.heap.size ≤ p ∧ Blk w' p 21 (tabJ K fun _ => 0)), (19, fun v w' => ∃ q p, v = .agg #[.slice (some ⟨gl, 0, none⟩) n n, .int .i64 (K : Nat), .slice (some ⟨q, 0, none⟩) n n, .slice none 0 0, .slice (some ⟨p, 0, none⟩) K K] ∧ (w.heap.size ≤ q ∧ Blk w' q 4 (tabB n fun _ => false)) ∧ w.heap.size ≤ p ∧ Blk w' p 21 (tabJ K fun _ => 0)), (20, fun v w' => ∃ b q p, v = .pointer (some ⟨b, 0, none⟩) ∧ (w.heap.size ≤ b ∧ Blk w' b 60 #[.slice (some ⟨gl, 0, none⟩) n n, .int .i64 (K : Nat), .slice (some ⟨q, 0, none⟩) n n, .slice none 0 0, .slice (some ⟨p, 0, none⟩) K K]) ∧ (w.heap.size ≤ q ∧ Blk w' q 4 (tabB n fun _ => false)) ∧ w.heap.size ≤ p ∧ Blk w' p 21 (tabJ K fun _ => 0)), (5, fun v w' => ∃ b q p, v = .pointer (some ⟨b, 0, none⟩) ∧ (w.heap.size ≤ b ∧ Blk w' b 60 #[.slice (some ⟨gl, 0, none⟩) n n, .int .i64 (K : Nat), .slice (some ⟨q, 0, none⟩) n n, .slice none 0 0, .slice (some ⟨p, 0, none⟩) K K]) ∧ (w.heap.size ≤ q ∧ Blk w' q 4 (tabB n fun _ => false)) ∧ w.heap.size ≤ p ∧ Blk w' p 21 (tabJ K fun _ => 0))] (by kernel_rfl) (by kernel_rfl) ⟨eqp_mono _, eqp_mono _, eqp_mono _, eqp_mono _, (fun _ _ _ hF ⟨q, h1, h2, h3⟩ => ⟨q, h1, h2, h3.from_ hF⟩), eqp_mono _, (fun _ _ _ hF ⟨q, h1, h2, h3⟩ => ⟨q, h1, h2, h3.from_ hF⟩), (fun _ _ _ hF ⟨q, p, h1, ⟨h2, h3⟩, h4, h5⟩ => ⟨q, p, h1, ⟨h2, h3.from_ hF⟩, h4, h5.from_ hF⟩), (fun _ _ _ hF ⟨b, q, p, h1, ⟨h6, h7⟩, ⟨h2, h3⟩, h4, h5⟩ => ⟨b, q, p, h1, ⟨h6, h7.from_ hF⟩, ⟨h2, h3.from_ hF⟩, h4, h5.from_ hF⟩), (fun _ _ _ hF ⟨b, q, p, h1, ⟨h6, h7⟩, ⟨h2, h3⟩, h4, h5⟩ => ⟨b, q, p, h1, ⟨h6, h7.from_ hF⟩, ⟨h2, h3.from_ hF⟩, h4, h5.from_ hF⟩), trivial⟩
  case hop =>
   refine ⟨?_, ?_⟩
   · intro w2 D2
     show OpOK _ _ _ _ _ _ _
     exact ok_pure (ro_move (v := .slice _ _ _) rfl) rfl
   refine ⟨?_, ?_⟩
   · intro w3 D3
     show OpOK _ _ _ _ _ _ _
     exact ok_pure (ro_move (v := .int _ _) rfl) rfl
   refine ⟨?_, ?_⟩
   · intro w4 D4
     show OpOK _ _ _ _ _ _ _
     exact ok_pure (ro_move (v := .slice _ _ _) rfl) rfl
   refine ⟨?_, ?_⟩
   · intro w5 D5
     rintro _ rfl
     show OpOK _ _ _ _ _ _ _
     exact ok_pure (ro_len SufText_l51 rfl) rfl
   refine ⟨?_, ?_⟩
   · intro w6 D6
     rintro _ rfl
     show OpOK _ _ _ _ _ _ _
     exact ok_val (ro_make SufText_m58 rfl rfl rfl (by omega) (by omega)) (From.rfl_.new _) ⟨_, rfl, (From.rfl_.next D6).size, by rw [← tabB_zero]; exact Blk.new _ _ _⟩
   refine ⟨?_, ?_⟩
   · intro w7 D7
     show OpOK _ _ _ _ _ _ _
     exact ok_pure (ro_move (v := .int _ _) rfl) rfl
   refine ⟨?_, ?_⟩
   · intro w8 D8
     rintro _ rfl
     show OpOK _ _ _ _ _ _ _
     exact ok_val (ro_make SufText_m51 rfl rfl rfl (by omega) (by omega)) (From.rfl_.new _) ⟨_, rfl, (From.rfl_.next D8).size, by rw [← tabJ_zero]; exact Blk.new _ _ _⟩
   refine ⟨?_, ?_⟩
   · intro w9 D9
     rintro _ rfl _ rfl v9_16 ⟨q9, rfl, gq9, hq9⟩ v9_18 ⟨p9, rfl, gp9, hp9⟩
     show OpOK _ _ _ _ _ _ _
     exact ok_pure (ro_build (SufText_bT _ _ _ _ _ _ _ _ _ _)) ⟨_, _, rfl, ⟨gq9, hq9⟩, gp9, hp9⟩
   refine ⟨?_, ?_⟩
   · intro w10 D10
     rintro v10_19 ⟨q10, p10, rfl, ⟨gq10, hq10⟩, gp10, hp10⟩
     show OpOK _ _ _ _ _ _ _
     exact ok_val (ro_box rfl) (From.rfl_.new _) ⟨_, _, _, rfl, ⟨(From.rfl_.next D10).size, Blk.new _ _ _⟩, ⟨gq10, hq10.from_ (From.rfl_.new _)⟩, gp10, hp10.from_ (From.rfl_.new _)⟩
   refine ⟨?_, ?_⟩
   · intro w11 D11
     rintro v11_20 ⟨b11, q11, p11, rfl, ⟨gb11, hb11⟩, ⟨gq11, hq11⟩, gp11, hp11⟩
     show OpOK _ _ _ _ _ _ _
     exact ok_pure (ro_assign rfl) ⟨_, _, _, rfl, ⟨gb11, hb11⟩, ⟨gq11, hq11⟩, gp11, hp11⟩
   exact trivial
  case hend =>
   intro w12 D12
   rintro _ rfl _ rfl _ rfl _ rfl v16 ⟨q12, rfl, gq12, hq12⟩ _ rfl v18 ⟨p12, rfl, gp12, hp12⟩ v19 ⟨q12, p12, rfl, ⟨gq12, hq12⟩, gp12, hp12⟩ v20 ⟨b12, q12, p12, rfl, ⟨gb12, hb12⟩, ⟨gq12, hq12⟩, gp12, hp12⟩ v5 ⟨b, q, p, rfl, ⟨gb, hT⟩, ⟨gq, hR⟩, gp, hE⟩
   show St _ _ _ _ _ _ _
   obtain ⟨z, hz⟩ : ∃ z, z = (w12).heap.size := ⟨_, rfl⟩
   have hpz := hE.lt
   have hwz : w.heap.size ≤ z := by omega
   refine st_nil ?_
   refine nx_then ?_
   refine cd_seq ?_
   refine cd_region ?_
   refine st_val (ro_move (v := .slice _ _ _) rfl) ?_
   refine st_val (ro_len SufText_l51 rfl) ?_
   refine st_val (ro_assign (v := .int _ _) rfl) ?_
   refine st_nil ?_
   refine nx_then ?_
   refine cd_seq ?_
   refine cd_region ?_
   refine st_val (ro_move (v := .pointer _) rfl) ?_
   refine st_val (ro_nilCheck rfl) ?_
   refine st_val (ro_fieldAddr SufText_f60_2 rfl) ?_
   refine st_val (ro_load SufText_g58 rfl (by exact hT.rd 2 rfl)) ?_
   refine st_val (ro_move (v := .int _ _) rfl) ?_
   refine st_val (ro_subN (b := 1) rfl rfl (by omega)) ?_
   refine st_val (ro_indexAddr0 SufText_e58 rfl rfl (by omega)) ?_
   refine st_put (v := .bool _) SufText_z4 rfl rfl rfl (hR) (by rw [tabB_size]; omega) ?_
   intro w13 O3 P3
   have hT3 := hT.only O3 (blk_ne hT hR (by decide))
   have hE3 := hE.only O3 (blk_ne hE hR (by decide))
   have hR3 := rT_start ht P3
   refine st_nil ?_
   refine nx_then ?_
   refine cd_seq ?_
   refine cd_seq ?_
   refine cd_region ?_
   refine st_val (ro_move (v := .int _ _) rfl) ?_
   refine st_val (ro_sub64 rfl rfl (by omega)) ?_
   refine st_val (ro_assign (v := .int _ _) rfl) ?_
   refine st_nil ?_
   refine nx_then ?_
   refine cd_block ?_
   refine cd_loop (G := Nat) [32, 33, 34, 35, 36, 37, 38, 39, 40, 41, 42, 43, 44, 45, 46, 47, 48, 49, 50, 51, 52, 53, 54, 55, 56, 57, 58, 59, 60, 61, 62, 63, 64, 65, 66, 67, 68, 69, 70, 71, 72, 73] (fun j => [(7, .int .i64 ((j : Nat) - 1 : Int))]) (fun j w' => j ≤ n - 1 ∧ Blk w' b 60 #[.slice (some ⟨gl, 0, none⟩) n n, .int .i64 (K : Nat), .slice (some ⟨q, 0, none⟩) n n, .slice none 0 0, .slice (some ⟨p, 0, none⟩) K K] ∧ Blk w' q 4 (rT n t j) ∧ Blk w' p 21 (tabJ K fun _ => 0) ∧ z ≤ w'.heap.size ∧ From w w') (fun j => j) (n - 1) ⟨(int_eq (by omega)), trivial⟩ ?_ ?_
   · exact ⟨Nat.le_refl _, hT3.from_ From.rfl_, hR3.from_ From.rfl_, hE3.from_ From.rfl_, by rw [hz]; exact Nat.le_trans (Nat.le_of_eq rfl) (O3.size.symm ▸ Nat.le_refl _), ((From.rfl_.next D12).only O3 (gq))⟩
   rintro j ρ14 w14 ⟨hj, hT, hR, hE, hzs, hB⟩
   refine cd_seq ?_
   refine cd_seq ?_
   refine cd_region ?_
   refine st_val (ro_move (v := .int _ _) rfl) ?_
   refine st_val (ro_geq rfl rfl) ?_
   refine st_nil ?_
   refine nx_then ?_
   refine cd_cond rfl (fun Q15 => ?_) (fun Q15 => ?_)
   · (try with_reducible first | replace Q15 := of_decide_eq_true Q15 | replace Q15 := of_decide_eq_false Q15 | replace Q15 := bn_t Q15 | replace Q15 := bn_f Q15)
     (try with_reducible first | replace Q15 := of_decide_eq_true Q15 | replace Q15 := of_decide_eq_false Q15 | replace Q15 := bx_t Q15 | replace Q15 := bx_f Q15 | replace Q15 := be_t Q15 | replace Q15 := be_f Q15)
     obtain ⟨i, rfl⟩ : ∃ i, j = i + 1 := ⟨j - 1, by omega⟩
     have e7 : (Value.int .i64 (((i + 1 : Nat) : Int) - 1)) = .int .i64 (i : Nat) := int_eq (by omega)
     rw [e7]
     refine cd_skip ?_
     refine nx_then ?_
     refine cd_seq ?_
     refine cd_block ?_
     rcases Nat.lt_trichotomy (t i) (t (i + 1)) with h1 | h1 | h1
     · have hX := rb_lt ht (by omega) h1
       apply cd_drawn 38 [(36, eqp _), (37, eqp _), (38, eqp _), (39, eqp _), (40, eqp _), (41, eqp _), (42, eqp _), (43, eqp _), (44, eqp _), (45, eqp _), (46, eqp _), (47, eqp _), (48, eqp _), (49, eqp _), (50, eqp _), (51, eqp _), (52, eqp _), (53, eqp _), (54, eqp _), (55, eqp _), (56, eqp _), (57, eqp _), (58, eqp _), (59, eqp _), (60, eqp _), (61, eqp _), (62, eqp _), (63, eqp _), (64, eqp _), (65, eqp _), (66, eqp _), (67, eqp _), (68, eqp _), (69, eqp _), (70, eqp _), (71, eqp _), (72, eqp _), (73, eqp _)] (by kernel_rfl) (by kernel_rfl) ⟨eqp_mono _, eqp_mono _, eqp_mono _, eqp_mono _, eqp_mono _, eqp_mono _, eqp_mono _, eqp_mono _, eqp_mono _, eqp_mono _, eqp_mono _, eqp_mono _, eqp_mono _, eqp_mono _, eqp_mono _, eqp_mono _, eqp_mono _, eqp_mono _, eqp_mono _, eqp_mono _, eqp_mono _, eqp_mono _, eqp_mono _, eqp_mono _, eqp_mono _, eqp_mono _, eqp_mono _, eqp_mono _, eqp_mono _, eqp_mono _, eqp_mono _, eqp_mono _, eqp_mono _, eqp_mono _, eqp_mono _, eqp_mono _, eqp_mono _, eqp_mono _, trivial⟩
       case hop =>
        refine ⟨?_, ?_⟩
        · intro w17 D17
          show OpOK _ _ _ _ _ _ _
          exact ok_pure (ro_move (v := .pointer _) rfl) rfl
        refine ⟨?_, ?_⟩
        · intro w18 D18
          rintro _ rfl
          show OpOK _ _ _ _ _ _ _
          exact ok_pure (ro_nilCheck rfl) rfl
        refine ⟨?_, ?_⟩
        · intro w19 D19
          rintro _ rfl
          show OpOK _ _ _ _ _ _ _
          exact ok_pure (ro_fieldAddr SufText_f60_2 rfl) rfl
        refine ⟨?_, ?_⟩
        · intro w20 D20
          rintro _ rfl
          show OpOK _ _ _ _ _ _ _
          exact ok_pure (ro_load SufText_g58 rfl (by exact (hT.from_ (From.rfl_.next D20)).rd 2 rfl)) rfl
        refine ⟨?_, ?_⟩
        · intro w21 D21
          show OpOK _ _ _ _ _ _ _
          exact ok_pure (ro_move (v := .int _ _) rfl) rfl
        refine ⟨?_, ?_⟩
        · intro w22 D22
          show OpOK _ _ _ _ _ _ _
          exact ok_pure (ro_move (v := .slice _ _ _) rfl) rfl
        refine ⟨?_, ?_⟩
        · intro w23 D23
          show OpOK _ _ _ _ _ _ _
          exact ok_pure (ro_move (v := .int _ _) rfl) rfl
        refine ⟨?_, ?_⟩
        · intro w24 D24
          rintro _ rfl _ rfl
          show OpOK _ _ _ _ _ _ _
          exact ok_pure (ro_indexAddr0 SufText_e51 rfl rfl (by omega)) rfl
        refine ⟨?_, ?_⟩
        · intro w25 D25
          rintro _ rfl
          show OpOK _ _ _ _ _ _ _
          exact ok_pure (ro_load SufText_g21 rfl (by exact (hl.from_ (hB.next D25)).rdN (by omega))) rfl
        refine ⟨?_, ?_⟩
        · intro w26 D26
          show OpOK _ _ _ _ _ _ _
          exact ok_pure (ro_move (v := .slice _ _ _) rfl) rfl
        refine ⟨?_, ?_⟩
        · intro w27 D27
          show OpOK _ _ _ _ _ _ _
          exact ok_pure (ro_move (v := .int _ _) rfl) rfl
        refine ⟨?_, ?_⟩
        · intro w28 D28
          rintro _ rfl
          show OpOK _ _ _ _ _ _ _
          exact ok_pure (ro_addN (b := 1) rfl rfl (by omega)) rfl
        refine ⟨?_, ?_⟩
        · intro w29 D29
          rintro _ rfl _ rfl
          show OpOK _ _ _ _ _ _ _
          exact ok_pure (ro_indexAddr0 SufText_e51 rfl rfl (by omega)) rfl
        refine ⟨?_, ?_⟩
        · intro w30 D30
          rintro _ rfl
          show OpOK _ _ _ _ _ _ _
          exact ok_pure (ro_load SufText_g21 rfl (by exact (hl.from_ (hB.next D30)).rdN (by omega))) rfl
        refine ⟨?_, ?_⟩
        · intro w31 D31
          rintro _ rfl _ rfl
          show OpOK _ _ _ _ _ _ _
          exact ok_pure (ro_bt (ro_lss rfl rfl) (decide_eq_true (by omega))) rfl
        refine ⟨?_, ?_⟩
        · intro w32 D32
          rintro _ rfl
          show OpOK _ _ _ _ _ _ _
          exact ok_pure (ro_move (v := .bool _) rfl) rfl
        refine ⟨?_, ?_⟩
        · intro w33 D33
          rintro _ rfl
          show OpOK _ _ _ _ _ _ _
          exact ok_gno rfl rfl rfl
        refine ⟨?_, ?_⟩
        · intro w34 D34
          rintro _ rfl
          show OpOK _ _ _ _ _ _ _
          exact ok_gno rfl rfl rfl
        refine ⟨?_, ?_⟩
        · intro w35 D35
          rintro _ rfl _ rfl _ rfl
          show OpOK _ _ _ _ _ _ _
          exact ok_gno rfl rfl rfl
        refine ⟨?_, ?_⟩
        · intro w36 D36
          rintro _ rfl _ rfl
          show OpOK _ _ _ _ _ _ _
          exact ok_gno rfl rfl rfl
        refine ⟨?_, ?_⟩
        · intro w37 D37
          rintro _ rfl
          show OpOK _ _ _ _ _ _ _
          exact ok_gno rfl rfl rfl
        refine ⟨?_, ?_⟩
        · intro w38 D38
          rintro _ rfl
          show OpOK _ _ _ _ _ _ _
          exact ok_gno rfl rfl rfl
        refine ⟨?_, ?_⟩
        · intro w39 D39
          rintro _ rfl _ rfl
          show OpOK _ _ _ _ _ _ _
          exact ok_gno rfl rfl rfl
        refine ⟨?_, ?_⟩
        · intro w40 D40
          rintro _ rfl _ rfl _ rfl
          show OpOK _ _ _ _ _ _ _
          exact ok_gno rfl rfl rfl
        refine ⟨?_, ?_⟩
        · intro w41 D41
          rintro _ rfl _ rfl
          show OpOK _ _ _ _ _ _ _
          exact ok_gno rfl rfl rfl
        refine ⟨?_, ?_⟩
        · intro w42 D42
          rintro _ rfl _ rfl _ rfl
          show OpOK _ _ _ _ _ _ _
          exact ok_gno rfl rfl rfl
        refine ⟨?_, ?_⟩
        · intro w43 D43
          rintro _ rfl _ rfl
          show OpOK _ _ _ _ _ _ _
          exact ok_gno rfl rfl rfl
        refine ⟨?_, ?_⟩
        · intro w44 D44
          rintro _ rfl
          show OpOK _ _ _ _ _ _ _
          exact ok_gund rfl rfl
        refine ⟨?_, ?_⟩
        · intro w45 D45
          rintro _ rfl _ rfl
          show OpOK _ _ _ _ _ _ _
          exact ok_gund rfl rfl
        refine ⟨?_, ?_⟩
        · intro w46 D46
          rintro _ rfl _ rfl
          show OpOK _ _ _ _ _ _ _
          exact ok_gund rfl rfl
        refine ⟨?_, ?_⟩
        · intro w47 D47
          rintro _ rfl _ rfl
          show OpOK _ _ _ _ _ _ _
          exact ok_gund rfl rfl
        refine ⟨?_, ?_⟩
        · intro w48 D48
          rintro _ rfl
          show OpOK _ _ _ _ _ _ _
          exact ok_gund rfl rfl
        refine ⟨?_, ?_⟩
        · intro w49 D49
          rintro _ rfl _ rfl
          show OpOK _ _ _ _ _ _ _
          exact ok_gund rfl rfl
        refine ⟨?_, ?_⟩
        · intro w50 D50
          rintro _ rfl _ rfl _ rfl
          show OpOK _ _ _ _ _ _ _
          exact ok_gund rfl rfl
        refine ⟨?_, ?_⟩
        · intro w51 D51
          rintro _ rfl _ rfl
          show OpOK _ _ _ _ _ _ _
          exact ok_gund rfl rfl
        refine ⟨?_, ?_⟩
        · intro w52 D52
          rintro _ rfl _ rfl _ rfl
          show OpOK _ _ _ _ _ _ _
          exact ok_gno rfl rfl rfl
        refine ⟨?_, ?_⟩
        · intro w53 D53
          rintro _ rfl _ rfl
          show OpOK _ _ _ _ _ _ _
          exact ok_pure (ro_pickT (v := .bool _) rfl rfl) rfl
        refine ⟨?_, ?_⟩
        · intro w54 D54
          rintro _ rfl _ rfl
          show OpOK _ _ _ _ _ _ _
          exact ok_pure (ro_indexAddr0 SufText_e58 rfl rfl (by omega)) rfl
        exact trivial
       case hend =>
        intro w55 D55
        rintro _ rfl _ rfl _ rfl _ rfl _ rfl _ rfl _ rfl _ rfl _ rfl _ rfl _ rfl _ rfl _ rfl _ rfl _ rfl _ rfl _ rfl _ rfl _ rfl _ rfl _ rfl _ rfl _ rfl _ rfl _ rfl _ rfl _ rfl _ rfl _ rfl _ rfl _ rfl _ rfl _ rfl _ rfl _ rfl _ rfl _ rfl _ rfl
        show St _ _ _ _ _ _ _
        have hT7q := hT.from_ D55
        have hR7q := hR.from_ D55
        have hE7q := hE.from_ D55
        have hzs7q := Nat.le_trans hzs D55.size
        refine st_put (v := .bool _) SufText_z4 rfl rfl rfl (hR7q) (by rw [rT_size]; omega) ?_
        intro w56 O7 P7
        have hT7 := hT7q.only O7 (blk_ne hT7q hR7q (by decide))
        have hE7 := hE7q.only O7 (blk_ne hE7q hR7q (by decide))
        have hR7 := rT_put hX P7
        have hzs7 : z ≤ (w56).heap.size := by rw [O7.size]; exact hzs7q
        refine st_nil ?_
        refine nx_block ?_
        refine nx_then ?_
        refine cd_region ?_
        refine st_val (ro_move (v := .int _ _) rfl) ?_
        refine st_val (ro_sub64 rfl rfl (by omega)) ?_
        refine st_val (ro_assign (v := .int _ _) rfl) ?_
        refine st_nil ?_
        refine nx_cut (i) ⟨(by first | rfl | (refine int_eq ?_; omega)), trivial⟩ (by (iterate 86 refine agr_cons rfl ?_); exact agr_rfl) ⟨?_, ?_⟩
        · exact ⟨by omega, hT7.from_ From.rfl_, hR7.from_ From.rfl_, hE7.from_ From.rfl_, Nat.le_trans hzs7 (From.rfl_).size, ((hB.next D55).only O7 (gq))⟩
        · show i < i + 1; omega
     · have hX := rb_eq ht (by omega) h1
       apply cd_drawn 38 [(36, eqp _), (37, eqp _), (38, eqp _), (39, eqp _), (40, eqp _), (41, eqp _), (42, eqp _), (43, eqp _), (44, eqp _), (45, eqp _), (46, eqp _), (47, eqp _), (48, eqp _), (49, eqp _), (50, eqp _), (51, eqp _), (52, eqp _), (53, eqp _), (54, eqp _), (55, eqp _), (56, eqp _), (57, eqp _), (58, eqp _), (59, eqp _), (60, eqp _), (61, eqp _), (62, eqp _), (63, eqp _), (64, eqp _), (65, eqp _), (66, eqp _), (67, eqp _), (68, eqp _), (69, eqp _), (70, eqp _), (71, eqp _), (72, eqp _), (73, eqp _)] (by kernel_rfl) (by kernel_rfl) ⟨eqp_mono _, eqp_mono _, eqp_mono _, eqp_mono _, eqp_mono _, eqp_mono _, eqp_mono _, eqp_mono _, eqp_mono _, eqp_mono _, eqp_mono _, eqp_mono _, eqp_mono _, eqp_mono _, eqp_mono _, eqp_mono _, eqp_mono _, eqp_mono _, eqp_mono _, eqp_mono _, eqp_mono _, eqp_mono _, eqp_mono _, eqp_mono _, eqp_mono _, eqp_mono _, eqp_mono _, eqp_mono _, eqp_mono _, eqp_mono _, eqp_mono _, eqp_mono _, eqp_mono _, eqp_mono _, eqp_mono _, eqp_mono _, eqp_mono _, eqp_mono _, trivial⟩
       case hop =>
        refine ⟨?_, ?_⟩
        · intro w58 D58
          show OpOK _ _ _ _ _ _ _
          exact ok_pure (ro_move (v := .pointer _) rfl) rfl
        refine ⟨?_, ?_⟩
        · intro w59 D59
          rintro _ rfl
          show OpOK _ _ _ _ _ _ _
          exact ok_pure (ro_nilCheck rfl) rfl
        refine ⟨?_, ?_⟩
        · intro w60 D60
          rintro _ rfl
          show OpOK _ _ _ _ _ _ _
          exact ok_pure (ro_fieldAddr SufText_f60_2 rfl) rfl
        refine ⟨?_, ?_⟩
        · intro w61 D61
          rintro _ rfl
          show OpOK _ _ _ _ _ _ _
          exact ok_pure (ro_load SufText_g58 rfl (by exact (hT.from_ (From.rfl_.next D61)).rd 2 rfl)) rfl
        refine ⟨?_, ?_⟩
        · intro w62 D62
          show OpOK _ _ _ _ _ _ _
          exact ok_pure (ro_move (v := .int _ _) rfl) rfl
        refine ⟨?_, ?_⟩
        · intro w63 D63
          show OpOK _ _ _ _ _ _ _
          exact ok_pure (ro_move (v := .slice _ _ _) rfl) rfl
        refine ⟨?_, ?_⟩
        · intro w64 D64
          show OpOK _ _ _ _ _ _ _
          exact ok_pure (ro_move (v := .int _ _) rfl) rfl
        refine ⟨?_, ?_⟩
        · intro w65 D65
          rintro _ rfl _ rfl
          show OpOK _ _ _ _ _ _ _
          exact ok_pure (ro_indexAddr0 SufText_e51 rfl rfl (by omega)) rfl
        refine ⟨?_, ?_⟩
        · intro w66 D66
          rintro _ rfl
          show OpOK _ _ _ _ _ _ _
          exact ok_pure (ro_load SufText_g21 rfl (by exact (hl.from_ (hB.next D66)).rdN (by omega))) rfl
        refine ⟨?_, ?_⟩
        · intro w67 D67
          show OpOK _ _ _ _ _ _ _
          exact ok_pure (ro_move (v := .slice _ _ _) rfl) rfl
        refine ⟨?_, ?_⟩
        · intro w68 D68
          show OpOK _ _ _ _ _ _ _
          exact ok_pure (ro_move (v := .int _ _) rfl) rfl
        refine ⟨?_, ?_⟩
        · intro w69 D69
          rintro _ rfl
          show OpOK _ _ _ _ _ _ _
          exact ok_pure (ro_addN (b := 1) rfl rfl (by omega)) rfl
        refine ⟨?_, ?_⟩
        · intro w70 D70
          rintro _ rfl _ rfl
          show OpOK _ _ _ _ _ _ _
          exact ok_pure (ro_indexAddr0 SufText_e51 rfl rfl (by omega)) rfl
        refine ⟨?_, ?_⟩
        · intro w71 D71
          rintro _ rfl
          show OpOK _ _ _ _ _ _ _
          exact ok_pure (ro_load SufText_g21 rfl (by exact (hl.from_ (hB.next D71)).rdN (by omega))) rfl
        refine ⟨?_, ?_⟩
        · intro w72 D72
          rintro _ rfl _ rfl
          show OpOK _ _ _ _ _ _ _
          exact ok_pure (ro_bf (ro_lss rfl rfl) (decide_eq_false (by omega))) rfl
        refine ⟨?_, ?_⟩
        · intro w73 D73
          rintro _ rfl
          show OpOK _ _ _ _ _ _ _
          exact ok_pure (ro_move (v := .bool _) rfl) rfl
        refine ⟨?_, ?_⟩
        · intro w74 D74
          rintro _ rfl
          show OpOK _ _ _ _ _ _ _
          exact ok_gpure rfl (ro_move (v := .slice _ _ _) rfl) rfl
        refine ⟨?_, ?_⟩
        · intro w75 D75
          rintro _ rfl
          show OpOK _ _ _ _ _ _ _
          exact ok_gpure rfl (ro_move (v := .int _ _) rfl) rfl
        refine ⟨?_, ?_⟩
        · intro w76 D76
          rintro _ rfl _ rfl _ rfl
          show OpOK _ _ _ _ _ _ _
          exact ok_gpure rfl (ro_indexAddr0 SufText_e51 rfl rfl (by omega)) rfl
        refine ⟨?_, ?_⟩
        · intro w77 D77
          rintro _ rfl _ rfl
          show OpOK _ _ _ _ _ _ _
          exact ok_gpure rfl (ro_load SufText_g21 rfl (by exact (hl.from_ (hB.next D77)).rdN (by omega))) rfl
        refine ⟨?_, ?_⟩
        · intro w78 D78
          rintro _ rfl
          show OpOK _ _ _ _ _ _ _
          exact ok_gpure rfl (ro_move (v := .slice _ _ _) rfl) rfl
        refine ⟨?_, ?_⟩
        · intro w79 D79
          rintro _ rfl
          show OpOK _ _ _ _ _ _ _
          exact ok_gpure rfl (ro_move (v := .int _ _) rfl) rfl
        refine ⟨?_, ?_⟩
        · intro w80 D80
          rintro _ rfl _ rfl
          show OpOK _ _ _ _ _ _ _
          exact ok_gpure rfl (ro_addN (b := 1) rfl rfl (by omega)) rfl
        refine ⟨?_, ?_⟩
        · intro w81 D81
          rintro _ rfl _ rfl _ rfl
          show OpOK _ _ _ _ _ _ _
          exact ok_gpure rfl (ro_indexAddr0 SufText_e51 rfl rfl (by omega)) rfl
        refine ⟨?_, ?_⟩
        · intro w82 D82
          rintro _ rfl _ rfl
          show OpOK _ _ _ _ _ _ _
          exact ok_gpure rfl (ro_load SufText_g21 rfl (by exact (hl.from_ (hB.next D82)).rdN (by omega))) rfl
        refine ⟨?_, ?_⟩
        · intro w83 D83
          rintro _ rfl _ rfl _ rfl
          show OpOK _ _ _ _ _ _ _
          exact ok_gpure rfl (ro_bt (ro_eql rfl rfl) (by rw [h1]; exact beq_self_eq_true _)) rfl
        refine ⟨?_, ?_⟩
        · intro w84 D84
          rintro _ rfl _ rfl
          show OpOK _ _ _ _ _ _ _
          exact ok_gpure rfl (ro_move (v := .bool _) rfl) rfl
        refine ⟨?_, ?_⟩
        · intro w85 D85
          rintro _ rfl
          show OpOK _ _ _ _ _ _ _
          exact ok_gpure rfl (ro_move (v := .pointer _) rfl) rfl
        refine ⟨?_, ?_⟩
        · intro w86 D86
          rintro _ rfl _ rfl
          show OpOK _ _ _ _ _ _ _
          exact ok_gpure rfl (ro_nilCheck rfl) rfl
        refine ⟨?_, ?_⟩
        · intro w87 D87
          rintro _ rfl _ rfl
          show OpOK _ _ _ _ _ _ _
          exact ok_gpure rfl (ro_fieldAddr SufText_f60_2 rfl) rfl
        refine ⟨?_, ?_⟩
        · intro w88 D88
          rintro _ rfl _ rfl
          show OpOK _ _ _ _ _ _ _
          exact ok_gpure rfl (ro_load SufText_g58 rfl (by exact (hT.from_ (From.rfl_.next D88)).rd 2 rfl)) rfl
        refine ⟨?_, ?_⟩
        · intro w89 D89
          rintro _ rfl
          show OpOK _ _ _ _ _ _ _
          exact ok_gpure rfl (ro_move (v := .int _ _) rfl) rfl
        refine ⟨?_, ?_⟩
        · intro w90 D90
          rintro _ rfl _ rfl
          show OpOK _ _ _ _ _ _ _
          exact ok_gpure rfl (ro_addN (b := 1) rfl rfl (by omega)) rfl
        refine ⟨?_, ?_⟩
        · intro w91 D91
          rintro _ rfl _ rfl _ rfl
          show OpOK _ _ _ _ _ _ _
          exact ok_gpure rfl (ro_indexAddr0 SufText_e58 rfl rfl (by omega)) rfl
        refine ⟨?_, ?_⟩
        · intro w92 D92
          rintro _ rfl _ rfl
          show OpOK _ _ _ _ _ _ _
          exact ok_gpure rfl (ro_load SufText_g4 rfl (by exact rT_rd (hR.from_ (From.rfl_.next D92)) (Nat.le_refl _) (by omega))) rfl
        refine ⟨?_, ?_⟩
        · intro w93 D93
          rintro _ rfl _ rfl _ rfl
          show OpOK _ _ _ _ _ _ _
          exact ok_gpure rfl (ro_pickT (v := .bool _) rfl rfl) rfl
        refine ⟨?_, ?_⟩
        · intro w94 D94
          rintro _ rfl _ rfl
          show OpOK _ _ _ _ _ _ _
          exact ok_pure (ro_pickF (v := .bool _) rfl rfl) rfl
        refine ⟨?_, ?_⟩
        · intro w95 D95
          rintro _ rfl _ rfl
          show OpOK _ _ _ _ _ _ _
          exact ok_pure (ro_indexAddr0 SufText_e58 rfl rfl (by omega)) rfl
        exact trivial
       case hend =>
        intro w96 D96
        rintro _ rfl _ rfl _ rfl _ rfl _ rfl _ rfl _ rfl _ rfl _ rfl _ rfl _ rfl _ rfl _ rfl _ rfl _ rfl _ rfl _ rfl _ rfl _ rfl _ rfl _ rfl _ rfl _ rfl _ rfl _ rfl _ rfl _ rfl _ rfl _ rfl _ rfl _ rfl _ rfl _ rfl _ rfl _ rfl _ rfl _ rfl _ rfl
        show St _ _ _ _ _ _ _
        have hT7q := hT.from_ D96
        have hR7q := hR.from_ D96
        have hE7q := hE.from_ D96
        have hzs7q := Nat.le_trans hzs D96.size
        refine st_put (v := .bool _) SufText_z4 rfl rfl rfl (hR7q) (by rw [rT_size]; omega) ?_
        intro w97 O7 P7
        have hT7 := hT7q.only O7 (blk_ne hT7q hR7q (by decide))
        have hE7 := hE7q.only O7 (blk_ne hE7q hR7q (by decide))
        have hR7 := rT_put hX P7
        have hzs7 : z ≤ (w97).heap.size := by rw [O7.size]; exact hzs7q
        refine st_nil ?_
        refine nx_block ?_
        refine nx_then ?_
        refine cd_region ?_
        refine st_val (ro_move (v := .int _ _) rfl) ?_
        refine st_val (ro_sub64 rfl rfl (by omega)) ?_
        refine st_val (ro_assign (v := .int _ _) rfl) ?_
        refine st_nil ?_
        refine nx_cut (i) ⟨(by first | rfl | (refine int_eq ?_; omega)), trivial⟩ (by (iterate 86 refine agr_cons rfl ?_); exact agr_rfl) ⟨?_, ?_⟩
        · exact ⟨by omega, hT7.from_ From.rfl_, hR7.from_ From.rfl_, hE7.from_ From.rfl_, Nat.le_trans hzs7 (From.rfl_).size, ((hB.next D96).only O7 (gq))⟩
        · show i < i + 1; omega
     · have hX := rb_gt ht (by omega) h1
       apply cd_drawn 38 [(36, eqp _), (37, eqp _), (38, eqp _), (39, eqp _), (40, eqp _), (41, eqp _), (42, eqp _), (43, eqp _), (44, eqp _), (45, eqp _), (46, eqp _), (47, eqp _), (48, eqp _), (49, eqp _), (50, eqp _), (51, eqp _), (52, eqp _), (53, eqp _), (54, eqp _), (55, eqp _), (56, eqp _), (57, eqp _), (58, eqp _), (59, eqp _), (60, eqp _), (61, eqp _), (62, eqp _), (63, eqp _), (64, eqp _), (65, eqp _), (66, eqp _), (67, eqp _), (68, eqp _), (69, eqp _), (70, eqp _), (71, eqp _), (72, eqp _), (73, eqp _)] (by kernel_rfl) (by kernel_rfl) ⟨eqp_mono _, eqp_mono _, eqp_mono _, eqp_mono _, eqp_mono _, eqp_mono _, eqp_mono _, eqp_mono _, eqp_mono _, eqp_mono _, eqp_mono _, eqp_mono _, eqp_mono _, eqp_mono _, eqp_mono _, eqp_mono _, eqp_mono _, eqp_mono _, eqp_mono _, eqp_mono _, eqp_mono _, eqp_mono _, eqp_mono _, eqp_mono _, eqp_mono _, eqp_mono _, eqp_mono _, eqp_mono _, eqp_mono _, eqp_mono _, eqp_mono _, eqp_mono _, eqp_mono _, eqp_mono _, eqp_mono _, eqp_mono _, eqp_mono _, eqp_mono _, trivial⟩
       case hop =>
        refine ⟨?_, ?_⟩
        · intro w99 D99
          show OpOK _ _ _ _ _ _ _
          exact ok_pure (ro_move (v := .pointer _) rfl) rfl
        refine ⟨?_, ?_⟩
        · intro w100 D100
          rintro _ rfl
          show OpOK _ _ _ _ _ _ _
          exact ok_pure (ro_nilCheck rfl) rfl
        refine ⟨?_, ?_⟩
        · intro w101 D101
          rintro _ rfl
          show OpOK _ _ _ _ _ _ _
          exact ok_pure (ro_fieldAddr SufText_f60_2 rfl) rfl
        refine ⟨?_, ?_⟩
        · intro w102 D102
          rintro _ rfl
          show OpOK _ _ _ _ _ _ _
          exact ok_pure (ro_load SufText_g58 rfl (by exact (hT.from_ (From.rfl_.next D102)).rd 2 rfl)) rfl
        refine ⟨?_, ?_⟩
        · intro w103 D103
          show OpOK _ _ _ _ _ _ _
          exact ok_pure (ro_move (v := .int _ _) rfl) rfl
        refine ⟨?_, ?_⟩
        · intro w104 D104
          show OpOK _ _ _ _ _ _ _
          exact ok_pure (ro_move (v := .slice _ _ _) rfl) rfl
        refine ⟨?_, ?_⟩
        · intro w105 D105
          show OpOK _ _ _ _ _ _ _
          exact ok_pure (ro_move (v := .int _ _) rfl) rfl
        refine ⟨?_, ?_⟩
        · intro w106 D106
          rintro _ rfl _ rfl
          show OpOK _ _ _ _ _ _ _
          exact ok_pure (ro_indexAddr0 SufText_e51 rfl rfl (by omega)) rfl
        refine ⟨?_, ?_⟩
        · intro w107 D107
          rintro _ rfl
          show OpOK _ _ _ _ _ _ _
          exact ok_pure (ro_load SufText_g21 rfl (by exact (hl.from_ (hB.next D107)).rdN (by omega))) rfl
        refine ⟨?_, ?_⟩
        · intro w108 D108
          show OpOK _ _ _ _ _ _ _
          exact ok_pure (ro_move (v := .slice _ _ _) rfl) rfl
        refine ⟨?_, ?_⟩
        · intro w109 D109
          show OpOK _ _ _ _ _ _ _
          exact ok_pure (ro_move (v := .int _ _) rfl) rfl
        refine ⟨?_, ?_⟩
        · intro w110 D110
          rintro _ rfl
          show OpOK _ _ _ _ _ _ _
          exact ok_pure (ro_addN (b := 1) rfl rfl (by omega)) rfl
        refine ⟨?_, ?_⟩
        · intro w111 D111
          rintro _ rfl _ rfl
          show OpOK _ _ _ _ _ _ _
          exact ok_pure (ro_indexAddr0 SufText_e51 rfl rfl (by omega)) rfl
        refine ⟨?_, ?_⟩
        · intro w112 D112
          rintro _ rfl
          show OpOK _ _ _ _ _ _ _
          exact ok_pure (ro_load SufText_g21 rfl (by exact (hl.from_ (hB.next D112)).rdN (by omega))) rfl
        refine ⟨?_, ?_⟩
        · intro w113 D113
          rintro _ rfl _ rfl
          show OpOK _ _ _ _ _ _ _
          exact ok_pure (ro_bf (ro_lss rfl rfl) (decide_eq_false (by omega))) rfl
        refine ⟨?_, ?_⟩
        · intro w114 D114
          rintro _ rfl
          show OpOK _ _ _ _ _ _ _
          exact ok_pure (ro_move (v := .bool _) rfl) rfl
        refine ⟨?_, ?_⟩
        · intro w115 D115
          rintro _ rfl
          show OpOK _ _ _ _ _ _ _
          exact ok_gpure rfl (ro_move (v := .slice _ _ _) rfl) rfl
        refine ⟨?_, ?_⟩
        · intro w116 D116
          rintro _ rfl
          show OpOK _ _ _ _ _ _ _
          exact ok_gpure rfl (ro_move (v := .int _ _) rfl) rfl
        refine ⟨?_, ?_⟩
        · intro w117 D117
          rintro _ rfl _ rfl _ rfl
          show OpOK _ _ _ _ _ _ _
          exact ok_gpure rfl (ro_indexAddr0 SufText_e51 rfl rfl (by omega)) rfl
        refine ⟨?_, ?_⟩
        · intro w118 D118
          rintro _ rfl _ rfl
          show OpOK _ _ _ _ _ _ _
          exact ok_gpure rfl (ro_load SufText_g21 rfl (by exact (hl.from_ (hB.next D118)).rdN (by omega))) rfl
        refine ⟨?_, ?_⟩
        · intro w119 D119
          rintro _ rfl
          show OpOK _ _ _ _ _ _ _
          exact ok_gpure rfl (ro_move (v := .slice _ _ _) rfl) rfl
        refine ⟨?_, ?_⟩
        · intro w120 D120
          rintro _ rfl
          show OpOK _ _ _ _ _ _ _
          exact ok_gpure rfl (ro_move (v := .int _ _) rfl) rfl
        refine ⟨?_, ?_⟩
        · intro w121 D121
          rintro _ rfl _ rfl
          show OpOK _ _ _ _ _ _ _
          exact ok_gpure rfl (ro_addN (b := 1) rfl rfl (by omega)) rfl
        refine ⟨?_, ?_⟩
        · intro w122 D122
          rintro _ rfl _ rfl _ rfl
          show OpOK _ _ _ _ _ _ _
          exact ok_gpure rfl (ro_indexAddr0 SufText_e51 rfl rfl (by omega)) rfl
        refine ⟨?_, ?_⟩
        · intro w123 D123
          rintro _ rfl _ rfl
          show OpOK _ _ _ _ _ _ _
          exact ok_gpure rfl (ro_load SufText_g21 rfl (by exact (hl.from_ (hB.next D123)).rdN (by omega))) rfl
        refine ⟨?_, ?_⟩
        · intro w124 D124
          rintro _ rfl _ rfl _ rfl
          show OpOK _ _ _ _ _ _ _
          exact ok_gpure rfl (ro_bf (ro_eql rfl rfl) (beq_false_of_ne (by omega))) rfl
        refine ⟨?_, ?_⟩
        · intro w125 D125
          rintro _ rfl _ rfl
          show OpOK _ _ _ _ _ _ _
          exact ok_gpure rfl (ro_move (v := .bool _) rfl) rfl
        refine ⟨?_, ?_⟩
        · intro w126 D126
          rintro _ rfl
          show OpOK _ _ _ _ _ _ _
          exact ok_gno rfl rfl rfl
        refine ⟨?_, ?_⟩
        · intro w127 D127
          rintro _ rfl _ rfl
          show OpOK _ _ _ _ _ _ _
          exact ok_gno rfl rfl rfl
        refine ⟨?_, ?_⟩
        · intro w128 D128
          rintro _ rfl _ rfl
          show OpOK _ _ _ _ _ _ _
          exact ok_gno rfl rfl rfl
        refine ⟨?_, ?_⟩
        · intro w129 D129
          rintro _ rfl _ rfl
          show OpOK _ _ _ _ _ _ _
          exact ok_gno rfl rfl rfl
        refine ⟨?_, ?_⟩
        · intro w130 D130
          rintro _ rfl
          show OpOK _ _ _ _ _ _ _
          exact ok_gno rfl rfl rfl
        refine ⟨?_, ?_⟩
        · intro w131 D131
          rintro _ rfl _ rfl
          show OpOK _ _ _ _ _ _ _
          exact ok_gno rfl rfl rfl
        refine ⟨?_, ?_⟩
        · intro w132 D132
          rintro _ rfl _ rfl _ rfl
          show OpOK _ _ _ _ _ _ _
          exact ok_gno rfl rfl rfl
        refine ⟨?_, ?_⟩
        · intro w133 D133
          rintro _ rfl _ rfl
          show OpOK _ _ _ _ _ _ _
          exact ok_gno rfl rfl rfl
        refine ⟨?_, ?_⟩
        · intro w134 D134
          rintro _ rfl _ rfl _ rfl
          show OpOK _ _ _ _ _ _ _
          exact ok_gpure rfl (ro_pickF (v := .bool _) rfl rfl) rfl
        refine ⟨?_, ?_⟩
        · intro w135 D135
          rintro _ rfl _ rfl
          show OpOK _ _ _ _ _ _ _
          exact ok_pure (ro_pickF (v := .bool _) rfl rfl) rfl
        refine ⟨?_, ?_⟩
        · intro w136 D136
          rintro _ rfl _ rfl
          show OpOK _ _ _ _ _ _ _
          exact ok_pure (ro_indexAddr0 SufText_e58 rfl rfl (by omega)) rfl
        exact trivial
       case hend =>
        intro w137 D137
        rintro _ rfl _ rfl _ rfl _ rfl _ rfl _ rfl _ rfl _ rfl _ rfl _ rfl _ rfl _ rfl _ rfl _ rfl _ rfl _ rfl _ rfl _ rfl _ rfl _ rfl _ rfl _ rfl _ rfl _ rfl _ rfl _ rfl _ rfl _ rfl _ rfl _ rfl _ rfl _ rfl _ rfl _ rfl _ rfl _ rfl _ rfl _ rfl
        show St _ _ _ _ _ _ _
        have hT7q := hT.from_ D137
        have hR7q := hR.from_ D137
        have hE7q := hE.from_ D137
        have hzs7q := Nat.le_trans hzs D137.size
        refine st_put (v := .bool _) SufText_z4 rfl rfl rfl (hR7q) (by rw [rT_size]; omega) ?_
        intro w138 O7 P7
        have hT7 := hT7q.only O7 (blk_ne hT7q hR7q (by decide))
        have hE7 := hE7q.only O7 (blk_ne hE7q hR7q (by decide))
        have hR7 := rT_put hX P7
        have hzs7 : z ≤ (w138).heap.size := by rw [O7.size]; exact hzs7q
        refine st_nil ?_
        refine nx_block ?_
        refine nx_then ?_
        refine cd_region ?_
        refine st_val (ro_move (v := .int _ _) rfl) ?_
        refine st_val (ro_sub64 rfl rfl (by omega)) ?_
        refine st_val (ro_assign (v := .int _ _) rfl) ?_
        refine st_nil ?_
        refine nx_cut (i) ⟨(by first | rfl | (refine int_eq ?_; omega)), trivial⟩ (by (iterate 86 refine agr_cons rfl ?_); exact agr_rfl) ⟨?_, ?_⟩
        · exact ⟨by omega, hT7.from_ From.rfl_, hR7.from_ From.rfl_, hE7.from_ From.rfl_, Nat.le_trans hzs7 (From.rfl_).size, ((hB.next D137).only O7 (gq))⟩
        · show i < i + 1; omega
   · (try with_reducible first | replace Q15 := of_decide_eq_true Q15 | replace Q15 := of_decide_eq_false Q15 | replace Q15 := bn_t Q15 | replace Q15 := bn_f Q15)
     (try with_reducible first | replace Q15 := of_decide_eq_true Q15 | replace Q15 := of_decide_eq_false Q15 | replace Q15 := bx_t Q15 | replace Q15 := bx_f Q15 | replace Q15 := be_t Q15 | replace Q15 := be_f Q15)
     refine cd_exit ?_
     refine ex_then ?_
     refine ex_then ?_
     refine ex_block ?_
     refine nx_then ?_
     refine cd_seq ?_
     refine cd_seq ?_
     refine cd_region ?_
     refine st_val (ro_assign (v := .int _ _) rfl) ?_
     refine st_nil ?_
     refine nx_then ?_
     refine cd_block ?_
     refine cd_loop (G := Nat × Option Addr × Nat) [74, 75, 76, 77, 78, 79, 80, 81, 82, 83, 84, 85, 86, 87, 88, 89, 90, 91, 92, 93, 94, 95, 96, 97, 98, 99, 100, 101, 102, 103, 104, 105, 106, 107] (fun (i, _, _) => [(8, .int .i64 (i : Nat))]) (fun (i, A3, c3) w' => 0 < i ∧ i ≤ n ∧ Blk w' b 60 #[.slice (some ⟨gl, 0, none⟩) n n, .int .i64 (K : Nat), .slice (some ⟨q, 0, none⟩) n n, .slice A3 (stL n t i).length c3, .slice (some ⟨p, 0, none⟩) K K] ∧ w'.ownsRow z 21 1 (.slice A3 (stL n t i).length c3) (stL n t i).length ((stL n t i).map fun x : Nat => jV (x : Nat)) ∧ Blk w' q 4 (rT n t 0) ∧ Blk w' p 21 (tabJ K fun _ => 0) ∧ z ≤ w'.heap.size ∧ From w w') (fun (i, _, _) => n - i) ((1, none, 0)) ⟨rfl, trivial⟩ ?_ ?_
     · obtain rfl : j = 0 := by omega
       refine ⟨by omega, ht.pos, ?_, ?_, hR.from_ From.rfl_, hE.from_ From.rfl_, Nat.le_trans hzs (From.rfl_).size, hB⟩
       · rw [stL_one]; exact hT.from_ From.rfl_
       · rw [stL_one]; exact World.ownsRow_nil _ _ _ _
     rintro ⟨i, A3, c3⟩ ρ139 w139 ⟨hi0, hin, hT, ho, hR, hE, hzs, hB⟩
     refine cd_seq ?_
     refine cd_seq ?_
     refine cd_region ?_
     refine st_val (ro_move (v := .int _ _) rfl) ?_
     refine st_val (ro_move (v := .int _ _) rfl) ?_
     refine st_val (ro_lss rfl rfl) ?_
     refine st_nil ?_
     refine nx_then ?_
     refine cd_cond rfl (fun Q140 => ?_) (fun Q140 => ?_)
     · (try with_reducible first | replace Q140 := of_decide_eq_true Q140 | replace Q140 := of_decide_eq_false Q140 | replace Q140 := bn_t Q140 | replace Q140 := bn_f Q140)
       (try with_reducible first | replace Q140 := of_decide_eq_true Q140 | replace Q140 := of_decide_eq_false Q140 | replace Q140 := bx_t Q140 | replace Q140 := bx_f Q140 | replace Q140 := be_t Q140 | replace Q140 := be_f Q140)
       refine cd_skip ?_
       refine nx_then ?_
       refine cd_cut (G := Option Addr × Nat) [79, 80, 81, 82, 83, 84, 85, 86, 87, 88, 89, 90, 91, 92, 93, 94, 95, 96, 97, 98, 99, 100, 101, 102, 103, 104, 105, 106, 107] (fun (_, _) => []) (fun (A3, c3) w' => Blk w' b 60 #[.slice (some ⟨gl, 0, none⟩) n n, .int .i64 (K : Nat), .slice (some ⟨q, 0, none⟩) n n, .slice A3 (stL n t (i + 1)).length c3, .slice (some ⟨p, 0, none⟩) K K] ∧ w'.ownsRow z 21 1 (.slice A3 (stL n t (i + 1)).length c3) (stL n t (i + 1)).length ((stL n t (i + 1)).map fun x : Nat => jV (x : Nat)) ∧ Blk w' q 4 (rT n t 0) ∧ Blk w' p 21 (tabJ K fun _ => 0) ∧ z ≤ w'.heap.size ∧ From w w') ?_ ?_
       · refine cd_block ?_
         refine cd_seq ?_
         refine cd_region ?_
         refine st_val (ro_move (v := .pointer _) rfl) ?_
         refine st_val (ro_nilCheck rfl) ?_
         refine st_val (ro_fieldAddr SufText_f60_2 rfl) ?_
         refine st_val (ro_load SufText_g58 rfl (by exact (hT.from_ From.rfl_).rd 2 rfl)) ?_
         refine st_val (ro_move (v := .int _ _) rfl) ?_
         refine st_val (ro_indexAddr0 SufText_e58 rfl rfl (by omega)) ?_
         refine st_val (ro_load SufText_g4 rfl (by exact rT_rd (hR.from_ From.rfl_) (Nat.zero_le _) (by omega))) ?_
         refine st_val (ro_move (v := .bool _) rfl) ?_
         refine st_split (t := 86) rfl (fun Q141 => ?_) (fun Q141 => ?_)
         · (try with_reducible first | replace Q141 := of_decide_eq_true Q141 | replace Q141 := of_decide_eq_false Q141 | replace Q141 := bn_t Q141 | replace Q141 := bn_f Q141)
           (try with_reducible first | replace Q141 := of_decide_eq_true Q141 | replace Q141 := of_decide_eq_false Q141 | replace Q141 := bx_t Q141 | replace Q141 := bx_f Q141 | replace Q141 := be_t Q141 | replace Q141 := be_f Q141)
           have hq85 : rb n t i = true := Q141
           refine st_unguard rfl ?_
           refine st_val (ro_move (v := .pointer _) rfl) ?_
           refine st_unguard rfl ?_
           refine st_val (ro_nilCheck rfl) ?_
           refine st_unguard rfl ?_
           refine st_val (ro_fieldAddr SufText_f60_2 rfl) ?_
           refine st_unguard rfl ?_
           refine st_val (ro_load SufText_g58 rfl (by exact (hT.from_ From.rfl_).rd 2 rfl)) ?_
           refine st_unguard rfl ?_
           refine st_val (ro_move (v := .int _ _) rfl) ?_
           refine st_unguard rfl ?_
           refine st_val (ro_subN (b := 1) rfl rfl (by omega)) ?_
           refine st_unguard rfl ?_
           refine st_val (ro_indexAddr0 SufText_e58 rfl rfl (by omega)) ?_
           refine st_unguard rfl ?_
           refine st_val (ro_load SufText_g4 rfl (by exact rT_rd (hR.from_ From.rfl_) (Nat.zero_le _) (by omega))) ?_
           refine st_unguard rfl ?_
           refine st_val (ro_not rfl) ?_
           refine st_val (ro_pickT (v := .bool _) rfl rfl) ?_
           refine st_nil ?_
           refine nx_then ?_
           refine cd_cond rfl (fun Q142 => ?_) (fun Q142 => ?_)
           · (try with_reducible first | replace Q142 := of_decide_eq_true Q142 | replace Q142 := of_decide_eq_false Q142 | replace Q142 := bn_t Q142 | replace Q142 := bn_f Q142)
             (try with_reducible first | replace Q142 := of_decide_eq_true Q142 | replace Q142 := of_decide_eq_false Q142 | replace Q142 := bx_t Q142 | replace Q142 := bx_f Q142 | replace Q142 := be_t Q142 | replace Q142 := be_f Q142)
             have hq94 : rb n t (i - 1) = false := by simpa using Q142
             refine cd_region ?_
             refine st_val (ro_move (v := .pointer _) rfl) ?_
             refine st_val (ro_move (v := .pointer _) rfl) ?_
             refine st_val (ro_nilCheck rfl) ?_
             refine st_val (ro_fieldAddr SufText_f60_3 rfl) ?_
             refine st_val (ro_load SufText_g51 rfl (by exact (hT.from_ From.rfl_).rd 3 rfl)) ?_
             refine st_val (ro_move (v := .int _ _) rfl) ?_
             refine st_val (ro_conv32 SufText_s3 SufText_i21 rfl (by omega)) ?_
             refine st_lit1 (v := .int _ _) SufText_q51 rfl rfl rfl ?_
             intro b104 w143 E104 hb104 hk104
             have hsl := stL_len (n := n) (t := t) (i := i)
             refine st_appendB (base := z) SufText_q51 rfl (by decide) rfl (A := A3) (xs := (stL n t i).map fun x : Nat => jV (x : Nat)) (news := [jV (i : Nat)]) (ho.kept_from E104) (Nat.le_trans hzs E104.size) rfl rfl (fun _ => ⟨b104, 0, rfl, hk104.whole⟩) (fun h => by cases h) (by simp [Value.oneCell']) (by omega) (by omega) ?_
             intro A105 c105 w144 ho105 hg105
             have HB105 : From w w144 := ((hB.next E104)).grew hg105 (fun k hk => Nat.le_trans hwz (own_at ho k hk).1)
             have hoq := ho.kept_from E104
             have hT105 := (hT.from_ E104).grown hg105 (own_off hoq (hT.from_ E104) (by decide))
             have hR105 := (hR.from_ E104).grown hg105 (own_off hoq (hR.from_ E104) (by decide))
             have hE105 := (hE.from_ E104).grown hg105 (fun k hk => by have := (own_at ho k hk).1; omega)
             have hzs105 := Nat.le_trans hzs (Nat.le_trans E104.size hg105.size)
             refine st_val (ro_nilCheck rfl) ?_
             refine st_val (ro_fieldAddr SufText_f60_3 rfl) ?_
             refine st_put (v := .slice _ _ _) SufText_z51 rfl rfl rfl (hT105) (by show 3 < 5; decide) ?_
             intro w145 O12 P12
             have hst := stL_yes (by omega) (by omega) hq85 hq94
             have hT12 := P12
             have ho12 := own_only3 ho105 O12 (own_off ho105 hT105 (by decide))
             have hR12 := hR105.only O12 (blk_ne hR105 hT105 (by decide))
             have hE12 := hE105.only O12 (blk_ne hE105 hT105 (by decide))
             have hzs12 : z ≤ (w145).heap.size := by rw [O12.size]; exact hzs105
             refine st_nil ?_
             refine nx_block ?_
             refine nx_cut ((A105, c105)) trivial (by (iterate 30 refine agr_cons rfl ?_); exact agr_rfl) ?_
             exact ⟨by rw [hst, List.length_append]; exact hT12, by rw [hst, List.length_append, List.map_append]; exact ho12, hR12, hE12, hzs12, (HB105.only O12 gb)⟩
           · (try with_reducible first | replace Q142 := of_decide_eq_true Q142 | replace Q142 := of_decide_eq_false Q142 | replace Q142 := bn_t Q142 | replace Q142 := bn_f Q142)
             (try with_reducible first | replace Q142 := of_decide_eq_true Q142 | replace Q142 := of_decide_eq_false Q142 | replace Q142 := bx_t Q142 | replace Q142 := bx_f Q142 | replace Q142 := be_t Q142 | replace Q142 := be_f Q142)
             refine cd_skip ?_
             refine nx_block ?_
             refine nx_cut ((A3, c3)) trivial (by (iterate 19 refine agr_cons rfl ?_); exact agr_rfl) ?_
             have hst : stL n t (i + 1) = stL n t i := stL_no (by simp_all)
             exact ⟨by rw [hst]; exact hT.from_ From.rfl_, by rw [hst]; exact ho.kept_from From.rfl_, hR.from_ From.rfl_, hE.from_ From.rfl_, Nat.le_trans hzs (From.rfl_).size, hB⟩
         · (try with_reducible first | replace Q141 := of_decide_eq_true Q141 | replace Q141 := of_decide_eq_false Q141 | replace Q141 := bn_t Q141 | replace Q141 := bn_f Q141)
           (try with_reducible first | replace Q141 := of_decide_eq_true Q141 | replace Q141 := of_decide_eq_false Q141 | replace Q141 := bx_t Q141 | replace Q141 := bx_f Q141 | replace Q141 := be_t Q141 | replace Q141 := be_f Q141)
           refine st_gno rfl rfl ?_
           refine st_gno rfl rfl ?_
           refine st_gno rfl rfl ?_
           refine st_gno rfl rfl ?_
           refine st_gno rfl rfl ?_
           refine st_gno rfl rfl ?_
           refine st_gno rfl rfl ?_
           refine st_gno rfl rfl ?_
           refine st_gno rfl rfl ?_
           refine st_val (ro_pickF (v := .bool _) rfl rfl) ?_
           refine st_nil ?_
           refine nx_then ?_
           refine cd_condF rfl ?_
           refine cd_skip ?_
           refine nx_block ?_
           refine nx_cut ((A3, c3)) trivial (by (iterate 19 refine agr_cons rfl ?_); exact agr_rfl) ?_
           have hst : stL n t (i + 1) = stL n t i := stL_no (by simp_all)
           exact ⟨by rw [hst]; exact hT.from_ From.rfl_, by rw [hst]; exact ho.kept_from From.rfl_, hR.from_ From.rfl_, hE.from_ From.rfl_, Nat.le_trans hzs (From.rfl_).size, hB⟩
       · rintro ⟨A4, c4⟩ ρ146 w146 ⟨hT2, ho2, hR2, hE2, hzs2, hB⟩
         refine cd_region ?_
         refine st_val (ro_move (v := .int _ _) rfl) ?_
         refine st_val (ro_addN (b := 1) rfl rfl (by omega)) ?_
         refine st_val (ro_assign (v := .int _ _) rfl) ?_
         refine st_nil ?_
         refine nx_cut ((i + 1, A4, c4)) ⟨(by first | rfl | (refine int_eq ?_; omega)), trivial⟩ (by (iterate 70 refine agr_cons rfl ?_); exact agr_rfl) ⟨?_, ?_⟩
         · exact ⟨by omega, by omega, hT2.from_ From.rfl_, ho2.kept_from From.rfl_, hR2.from_ From.rfl_, hE2.from_ From.rfl_, Nat.le_trans hzs2 (From.rfl_).size, hB⟩
         · show n - (i + 1) < n - i; omega
     · (try with_reducible first | replace Q140 := of_decide_eq_true Q140 | replace Q140 := of_decide_eq_false Q140 | replace Q140 := bn_t Q140 | replace Q140 := bn_f Q140)
       (try with_reducible first | replace Q140 := of_decide_eq_true Q140 | replace Q140 := of_decide_eq_false Q140 | replace Q140 := bx_t Q140 | replace Q140 := bx_f Q140 | replace Q140 := be_t Q140 | replace Q140 := be_f Q140)
       refine cd_exit ?_
       refine ex_then ?_
       refine ex_then ?_
       refine ex_block ?_
       refine nx_then ?_
       refine cd_seq ?_
       refine cd_seq ?_
       refine cd_region ?_
       refine st_val (ro_move (v := .slice _ _ _) rfl) ?_
       refine st_val (ro_len SufText_l51 rfl) ?_
       refine st_val (ro_move (v := .int _ _) rfl) ?_
       refine st_nil ?_
       refine nx_then ?_
       refine cd_block ?_
       refine cd_loop (G := Nat) [10, 111, 112, 113, 114, 115, 116, 117, 118, 119, 120, 121, 122, 123] (fun k => [(110, .int .i64 (k : Nat))]) (fun k w' => k ≤ n ∧ Blk w' b 60 #[.slice (some ⟨gl, 0, none⟩) n n, .int .i64 (K : Nat), .slice (some ⟨q, 0, none⟩) n n, .slice A3 (stL n t n).length c3, .slice (some ⟨p, 0, none⟩) K K] ∧ w'.ownsRow z 21 1 (.slice A3 (stL n t n).length c3) (stL n t n).length ((stL n t n).map fun x : Nat => jV (x : Nat)) ∧ Blk w' q 4 (rT n t 0) ∧ Blk w' p 21 (cT n K t k) ∧ From w w') (fun k => n - k) (0) ⟨rfl, trivial⟩ ?_ ?_
       · obtain rfl : i = n := by omega
         exact ⟨Nat.zero_le _, hT.from_ From.rfl_, ho.kept_from From.rfl_, hR.from_ From.rfl_, hE.from_ From.rfl_, hB⟩
       rintro k ρ147 w147 ⟨hkn, hT, ho, hR, hE, hB⟩
       refine cd_seq ?_
       refine cd_region ?_
       refine st_val (ro_lss rfl rfl) ?_
       refine st_nil ?_
       refine nx_then ?_
       refine cd_seq ?_
       refine cd_cond rfl (fun Q148 => ?_) (fun Q148 => ?_)
       · (try with_reducible first | replace Q148 := of_decide_eq_true Q148 | replace Q148 := of_decide_eq_false Q148 | replace Q148 := bn_t Q148 | replace Q148 := bn_f Q148)
         (try with_reducible first | replace Q148 := of_decide_eq_true Q148 | replace Q148 := of_decide_eq_false Q148 | replace Q148 := bx_t Q148 | replace Q148 := bx_f Q148 | replace Q148 := be_t Q148 | replace Q148 := be_f Q148)
         refine cd_skip ?_
         refine nx_then ?_
         refine cd_seq ?_
         refine cd_block ?_
         refine cd_seq ?_
         refine cd_region ?_
         refine st_val (ro_indexAddr0 SufText_e51 rfl rfl (by omega)) ?_
         refine st_val (ro_load SufText_g21 rfl (by exact (hl.from_ hB).rdN (by omega))) ?_
         refine st_val (ro_assign (v := .int _ _) rfl) ?_
         refine st_nil ?_
         refine nx_then ?_
         refine cd_region ?_
         refine st_val (ro_move (v := .pointer _) rfl) ?_
         refine st_val (ro_nilCheck rfl) ?_
         refine st_val (ro_fieldAddr SufText_f60_4 rfl) ?_
         refine st_val (ro_load SufText_g51 rfl (by exact (hT.from_ From.rfl_).rd 4 rfl)) ?_
         refine st_val (ro_move (v := .int _ _) rfl) ?_
         refine st_val (ro_indexAddr0 SufText_e51 rfl rfl (by exact hkt _ (by omega))) ?_
         refine st_val (ro_load SufText_g21 rfl (by exact cT_rd (hE.from_ From.rfl_) (hkt _ (by omega)))) ?_
         refine st_val (ro_add32 (r := ((cnt k (fun i => t i = t k) + 1 : Nat) : Int)) rfl rfl (by omega) (by have := cnt_le_n k (fun i => t i = t k); omega)) ?_
         refine st_val (ro_indexAddr0 SufText_e51 rfl rfl (by exact hkt _ (by omega))) ?_
         refine st_put (v := .int _ _) SufText_z21 rfl rfl rfl (hE) (by unfold cT; rw [tabJ_size]; exact hkt _ (by omega)) ?_
         intro w149 O16 P16
         have hT16 := hT.only O16 (blk_ne hT hE (by decide))
         have ho16 := own_only3 ho O16 (fun k hk => by have := (own_at ho k hk).1; omega)
         have hR16 := hR.only O16 (blk_ne hR hE (by decide))
         have hE16 := cT_put P16
         refine st_nil ?_
         refine nx_block ?_
         refine nx_then ?_
         refine cd_region ?_
         refine st_val (ro_addN (b := 1) rfl rfl (by omega)) ?_
         refine st_val (ro_move (v := .int _ _) rfl) ?_
         refine st_nil ?_
         refine nx_cut (k + 1) ⟨(by first | rfl | (refine int_eq ?_; omega)), trivial⟩ (by (iterate 30 refine agr_cons rfl ?_); exact agr_rfl) ⟨?_, ?_⟩
         · exact ⟨by omega, hT16.from_ From.rfl_, ho16.kept_from From.rfl_, hR16.from_ From.rfl_, hE16.from_ From.rfl_, (hB.only O16 (gp))⟩
         · show n - (k + 1) < n - k; omega
       · (try with_reducible first | replace Q148 := of_decide_eq_true Q148 | replace Q148 := of_decide_eq_false Q148 | replace Q148 := bn_t Q148 | replace Q148 := bn_f Q148)
         (try with_reducible first | replace Q148 := of_decide_eq_true Q148 | replace Q148 := of_decide_eq_false Q148 | replace Q148 := bx_t Q148 | replace Q148 := bx_f Q148 | replace Q148 := be_t Q148 | replace Q148 := be_f Q148)
         refine cd_exit ?_
         refine ex_then ?_
         refine ex_then ?_
         refine ex_block ?_
         refine nx_then ?_
         refine cd_seq ?_
         refine cd_seq ?_
         refine cd_region ?_
         refine st_val (ro_assign (v := .int _ _) rfl) ?_
         refine st_nil ?_
         refine nx_then ?_
         refine cd_block ?_
         refine cd_loop (G := Nat) [124, 125, 126, 127, 128, 129, 130, 131, 132, 133, 134, 135, 136, 137, 138, 139, 140, 141, 142, 143, 144, 145] (fun c => [(11, .int .i64 (c : Nat))]) (fun c w' => 1 ≤ c ∧ Blk w' b 60 #[.slice (some ⟨gl, 0, none⟩) n n, .int .i64 (K : Nat), .slice (some ⟨q, 0, none⟩) n n, .slice A3 (stL n t n).length c3, .slice (some ⟨p, 0, none⟩) K K] ∧ w'.ownsRow z 21 1 (.slice A3 (stL n t n).length c3) (stL n t n).length ((stL n t n).map fun x : Nat => jV (x : Nat)) ∧ Blk w' q 4 (rT n t 0) ∧ Blk w' p 21 (eT n K t c) ∧ From w w') (fun c => K - c) (1) ⟨rfl, trivial⟩ ?_ ?_
         · obtain rfl : k = n := by omega
           exact ⟨Nat.le_refl _, hT.from_ From.rfl_, ho.kept_from From.rfl_, hR.from_ From.rfl_, by rw [← eT_one]; exact hE.from_ From.rfl_, hB⟩
         rintro c ρ150 w150 ⟨hc, hT, ho, hR, hE, hB⟩
         refine cd_seq ?_
         refine cd_seq ?_
         refine cd_region ?_
         refine st_val (ro_move (v := .int _ _) rfl) ?_
         refine st_val (ro_move (v := .int _ _) rfl) ?_
         refine st_val (ro_lss rfl rfl) ?_
         refine st_nil ?_
         refine nx_then ?_
         refine cd_cond rfl (fun Q151 => ?_) (fun Q151 => ?_)
         · (try with_reducible first | replace Q151 := of_decide_eq_true Q151 | replace Q151 := of_decide_eq_false Q151 | replace Q151 := bn_t Q151 | replace Q151 := bn_f Q151)
           (try with_reducible first | replace Q151 := of_decide_eq_true Q151 | replace Q151 := of_decide_eq_false Q151 | replace Q151 := bx_t Q151 | replace Q151 := bx_f Q151 | replace Q151 := be_t Q151 | replace Q151 := be_f Q151)
           refine cd_skip ?_
           refine nx_then ?_
           refine cd_seq ?_
           refine cd_block ?_
           apply cd_drawn 17 [(129, eqp _), (130, eqp _), (131, eqp _), (132, eqp _), (133, eqp _), (134, eqp _), (135, eqp _), (136, eqp _), (137, eqp _), (138, eqp _), (139, eqp _), (140, eqp _), (141, eqp _), (142, eqp _), (143, eqp _), (144, eqp _), (145, eqp _)] (by kernel_rfl) (by kernel_rfl) ⟨eqp_mono _, eqp_mono _, eqp_mono _, eqp_mono _, eqp_mono _, eqp_mono _, eqp_mono _, eqp_mono _, eqp_mono _, eqp_mono _, eqp_mono _, eqp_mono _, eqp_mono _, eqp_mono _, eqp_mono _, eqp_mono _, eqp_mono _, trivial⟩
           case hop =>
            refine ⟨?_, ?_⟩
            · intro w153 D153
              show OpOK _ _ _ _ _ _ _
              exact ok_pure (ro_move (v := .pointer _) rfl) rfl
            refine ⟨?_, ?_⟩
            · intro w154 D154
              rintro _ rfl
              show OpOK _ _ _ _ _ _ _
              exact ok_pure (ro_nilCheck rfl) rfl
            refine ⟨?_, ?_⟩
            · intro w155 D155
              rintro _ rfl
              show OpOK _ _ _ _ _ _ _
              exact ok_pure (ro_fieldAddr SufText_f60_4 rfl) rfl
            refine ⟨?_, ?_⟩
            · intro w156 D156
              rintro _ rfl
              show OpOK _ _ _ _ _ _ _
              exact ok_pure (ro_load SufText_g51 rfl (by exact (hT.from_ (From.rfl_.next D156)).rd 4 rfl)) rfl
            refine ⟨?_, ?_⟩
            · intro w157 D157
              show OpOK _ _ _ _ _ _ _
              exact ok_pure (ro_move (v := .int _ _) rfl) rfl
            refine ⟨?_, ?_⟩
            · intro w158 D158
              rintro _ rfl _ rfl
              show OpOK _ _ _ _ _ _ _
              exact ok_pure (ro_indexAddr0 SufText_e51 rfl rfl (by omega)) rfl
            refine ⟨?_, ?_⟩
            · intro w159 D159
              rintro _ rfl
              show OpOK _ _ _ _ _ _ _
              exact ok_pure (ro_load SufText_g21 rfl (by exact eT_hi (hE.from_ (From.rfl_.next D159)) (by omega) (by omega))) rfl
            refine ⟨?_, ?_⟩
            · intro w160 D160
              show OpOK _ _ _ _ _ _ _
              exact ok_pure (ro_move (v := .pointer _) rfl) rfl
            refine ⟨?_, ?_⟩
            · intro w161 D161
              rintro _ rfl
              show OpOK _ _ _ _ _ _ _
              exact ok_pure (ro_nilCheck rfl) rfl
            refine ⟨?_, ?_⟩
            · intro w162 D162
              rintro _ rfl
              show OpOK _ _ _ _ _ _ _
              exact ok_pure (ro_fieldAddr SufText_f60_4 rfl) rfl
            refine ⟨?_, ?_⟩
            · intro w163 D163
              rintro _ rfl
              show OpOK _ _ _ _ _ _ _
              exact ok_pure (ro_load SufText_g51 rfl (by exact (hT.from_ (From.rfl_.next D163)).rd 4 rfl)) rfl
            refine ⟨?_, ?_⟩
            · intro w164 D164
              show OpOK _ _ _ _ _ _ _
              exact ok_pure (ro_move (v := .int _ _) rfl) rfl
            refine ⟨?_, ?_⟩
            · intro w165 D165
              rintro _ rfl
              show OpOK _ _ _ _ _ _ _
              exact ok_pure (ro_subN (b := 1) rfl rfl (by omega)) rfl
            refine ⟨?_, ?_⟩
            · intro w166 D166
              rintro _ rfl _ rfl
              show OpOK _ _ _ _ _ _ _
              exact ok_pure (ro_indexAddr0 SufText_e51 rfl rfl (by omega)) rfl
            refine ⟨?_, ?_⟩
            · intro w167 D167
              rintro _ rfl
              show OpOK _ _ _ _ _ _ _
              exact ok_pure (ro_load SufText_g21 rfl (by exact eT_lo (hE.from_ (From.rfl_.next D167)) (by omega) (by omega))) rfl
            refine ⟨?_, ?_⟩
            · intro w168 D168
              rintro _ rfl _ rfl
              show OpOK _ _ _ _ _ _ _
              exact ok_pure (ro_add32 (r := ((less n t (c + 1) : Nat) : Int)) rfl rfl (by have := less_succ (n := n) (t := t) c; omega) (by have := less_le (n := n) (t := t) (c := c + 1); omega)) rfl
            refine ⟨?_, ?_⟩
            · intro w169 D169
              rintro _ rfl _ rfl
              show OpOK _ _ _ _ _ _ _
              exact ok_pure (ro_indexAddr0 SufText_e51 rfl rfl (by omega)) rfl
            exact trivial
           case hend =>
            intro w170 D170
            rintro _ rfl _ rfl _ rfl _ rfl _ rfl _ rfl _ rfl _ rfl _ rfl _ rfl _ rfl _ rfl _ rfl _ rfl _ rfl _ rfl _ rfl
            show St _ _ _ _ _ _ _
            have hT21q := hT.from_ D170
            have ho21q := ho.kept_from D170
            have hR21q := hR.from_ D170
            have hE21q := hE.from_ D170
            refine st_put (v := .int _ _) SufText_z21 rfl rfl rfl (hE21q) (by unfold eT; rw [tabJ_size]; omega) ?_
            intro w171 O21 P21
            have hT21 := hT21q.only O21 (blk_ne hT21q hE21q (by decide))
            have ho21 := own_only3 ho21q O21 (fun k hk => by have := (own_at ho21q k hk).1; omega)
            have hR21 := hR21q.only O21 (blk_ne hR21q hE21q (by decide))
            have hE21 := eT_put P21
            refine st_nil ?_
            refine nx_block ?_
            refine nx_then ?_
            refine cd_region ?_
            refine st_val (ro_move (v := .int _ _) rfl) ?_
            refine st_val (ro_addN (b := 1) rfl rfl (by omega)) ?_
            refine st_val (ro_assign (v := .int _ _) rfl) ?_
            refine st_nil ?_
            refine nx_cut (c + 1) ⟨(by first | rfl | (refine int_eq ?_; omega)), trivial⟩ (by (iterate 46 refine agr_cons rfl ?_); exact agr_rfl) ⟨?_, ?_⟩
            · exact ⟨by omega, hT21.from_ From.rfl_, ho21.kept_from From.rfl_, hR21.from_ From.rfl_, hE21.from_ From.rfl_, ((hB.next D170).only O21 (gp))⟩
            · show K - (c + 1) < K - c; omega
         · (try with_reducible first | replace Q151 := of_decide_eq_true Q151 | replace Q151 := of_decide_eq_false Q151 | replace Q151 := bn_t Q151 | replace Q151 := bn_f Q151)
           (try with_reducible first | replace Q151 := of_decide_eq_true Q151 | replace Q151 := of_decide_eq_false Q151 | replace Q151 := bx_t Q151 | replace Q151 := bx_f Q151 | replace Q151 := be_t Q151 | replace Q151 := be_f Q151)
           refine cd_exit ?_
           refine ex_then ?_
           refine ex_then ?_
           refine ex_block ?_
           refine nx_then ?_
           refine cd_seq ?_
           refine cd_region ?_
           refine st_val (ro_move (v := .pointer _) rfl) ?_
           refine st_val (ro_assign (v := .pointer _) rfl) ?_
           refine st_nil ?_
           refine nx_then ?_
           refine cd_ret ?_
           refine res1 (v := .pointer _) rfl rfl ?_
           rw [rT_zero] at hR
           rw [eT_all (by omega)] at hE
           exact ⟨⟨b, (stL n t n).length, stF n t, rfl, ⟨gl, q, A3, c3, p, hT.from_ From.rfl_, hl.from_ hB, hR.from_ From.rfl_, (fun h0 => (let ⟨g, e⟩ := own_some ho h0; ⟨g, e, by rw [e] at ho; exact (VJ.own (f := fun k => ((stF n t k : Nat) : Int)) (by rw [stF_row, List.map_map]; exact ho.kept_from From.rfl_) h0).1⟩)), (VJ.of_blk hE).from_ From.rfl_⟩, stF_starts n t⟩, hB⟩
end Go.Proofs.Ytpafbgdbjambgaa
