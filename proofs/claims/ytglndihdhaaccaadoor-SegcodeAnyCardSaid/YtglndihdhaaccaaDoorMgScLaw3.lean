/- suffix: Common. -/
import Derived.Test.YtglndihdhaaccaaDoorMgScLaw2
import Derived.RangeFuncLeaves
import Derived.RangeFuncWrites
import Derived.OrdersIn
import Derived.TacticsIn
import Derived.TacticsInMore
import Derived.LoopIn
import Derived.LoopNIn
import Derived.Shelf.Abstract
set_option maxRecDepth 100000
namespace Go.Proofs.YtglndihdhaaccaaDoor
open Go.RowKit
open Go.ChangeShapes Go.WideShapes Go.ChangeAt
open Go.Proofs.YtglndihdhaaccaaDoor.SA
theorem SufHeads_e81 : elemQ Tryd.prog 81 = some (21, 1) := by kernel_rfl
theorem SufHeads_q81 : litQ Tryd.prog 81 = some (21, 1, 4, (.int .i32 0)) := by kernel_rfl
theorem SufHeads_f124_4 : fieldQ Tryd.prog 124 4 = some 4 := by kernel_rfl
theorem SufHeads_g81 : aggQ Tryd.prog 81 = some false := by kernel_rfl
theorem SufHeads_f124_1 : fieldQ Tryd.prog 124 1 = some 1 := by kernel_rfl
theorem SufHeads_g3 : aggQ Tryd.prog 3 = some false := by kernel_rfl
theorem heads_list (n K : Nat) (t : Nat → Nat) (h0 : 0 < K) : [jV 0] ++ ((List.range (K - 1)).map fun c => jV (less n t (c + 1) : Nat)) = ((List.range K).map fun c => ((less n t c : Nat) : Int)).map jV := by
  obtain ⟨K, rfl⟩ : ∃ k, K = k + 1 := ⟨K - 1, by omega⟩
  have e : less n t 0 = 0 := cnt_none fun i _ h => absurd h (by omega)
  rw [Nat.add_sub_cancel, List.range_succ_eq_map]
  simp [e]
set_option maxHeartbeats 400000 in
theorem heads_rt (b n K m : Nat) (t ss : Nat → Nat) (w : World) (hT : TextAt w b n K t m ss) (hK0 : 0 < K) (hK : K ≤ 1000000) :
    Rt Tryd.prog 54 [.pointer (some ⟨b, 0, none⟩)] w (fun v w' => (∃ g c, v = .slice (some ⟨g, 0, none⟩) K c ∧ w.heap.size ≤ g ∧ VJ w' g K (fun c => (less n t c : Nat))) ∧ From w w') := by
  obtain ⟨gl, gr, AS, cs, ge, hb, hl, hr, hs, he⟩ := hT
  refine enter (n := 15) Tryd.func54 rfl rfl rfl ?_
  refine cd_seq (cd_region ?_)
  refine ass rfl ?_
  refine st_nil (nx_then (cd_seq ?_))
  apply cd_mu9 12 11 [3] [(3, fun v w' => ∃ q, v = .slice (some ⟨q, 0, none⟩) 1 1 ∧ w'.ownsRow w.heap.size 21 1 (.slice (some ⟨q, 0, none⟩) 1 1) 1 [jV 0] ∧ (w).heap.size ≤ q), (4, eqp _), (5, eqp _), (6, eqp _), (7, eqp _), (8, eqp _), (9, eqp _), (10, eqp _), (11, eqp _), (12, eqp _), (13, eqp _), (14, fun v w' => ∃ A2 c2, v = .slice A2 K c2 ∧ w'.ownsRow w.heap.size 21 1 (.slice A2 K c2) K ([jV 0] ++ ((List.range (K - 1)).map fun c => jV (less n t (c + 1) : Nat))))] (fun w' => From w w') (fun w' => From w w') (by repeat first | exact pq_body | refine pq_then ?_ | refine pq_block ?_) (by kernel_rfl) (by kernel_rfl) (by kernel_rfl) ⟨(fun _ _ _ hF ⟨q, h1, h2, h3⟩ => ⟨q, h1, h2.kept_from hF, h3⟩), eqp_mono _, eqp_mono _, eqp_mono _, eqp_mono _, eqp_mono _, eqp_mono _, eqp_mono _, eqp_mono _, eqp_mono _, eqp_mono _, (fun _ _ _ hF ⟨A2, c2, h1, h2⟩ => ⟨A2, c2, h1, h2.kept_from hF⟩), trivial⟩ (From.rfl_.d1) (From.rfl_.d1) (fun _ _ hF h => h.next hF) (fun _ _ hF h => h.next hF)
  case hop =>
   refine ⟨?_, ?_⟩
   · rintro - w2 D2
     show OpOK _ _ _ _ _ _ _
     exact ok_val (ro_lit1 SufHeads_q81 rfl rfl rfl) (From.rfl_.new _) ⟨_, rfl, ⟨by simp, .inr ⟨_, 1, #[jV 0], rfl, (From.rfl_.next D2).size, heap_alloc_new _ _, Nat.le_refl _, by decide, by simp, by simp⟩⟩, D2.size⟩
   refine ⟨?_, ?_⟩
   · rintro - w3 D3
     show OpOK _ _ _ _ _ _ _
     exact ok_pure (ro_move (v := .pointer _) rfl) rfl
   refine ⟨?_, ?_⟩
   · rintro - w4 D4
     rintro _ rfl
     show OpOK _ _ _ _ _ _ _
     exact ok_pure (ro_nilCheck rfl) rfl
   refine ⟨?_, ?_⟩
   · rintro - w5 D5
     rintro _ rfl
     show OpOK _ _ _ _ _ _ _
     exact ok_pure (ro_fieldAddr SufHeads_f124_4 rfl) rfl
   refine ⟨?_, ?_⟩
   · rintro - w6 D6
     rintro _ rfl
     show OpOK _ _ _ _ _ _ _
     exact ok_pure (ro_load SufHeads_g81 rfl (by exact cellF (From.rfl_.next D6) (hb.rd 4 rfl))) rfl
   refine ⟨?_, ?_⟩
   · rintro - w7 D7
     show OpOK _ _ _ _ _ _ _
     exact ok_pure (ro_move (v := .pointer _) rfl) rfl
   refine ⟨?_, ?_⟩
   · rintro - w8 D8
     rintro _ rfl
     show OpOK _ _ _ _ _ _ _
     exact ok_pure (ro_nilCheck rfl) rfl
   refine ⟨?_, ?_⟩
   · rintro - w9 D9
     rintro _ rfl
     show OpOK _ _ _ _ _ _ _
     exact ok_pure (ro_fieldAddr SufHeads_f124_1 rfl) rfl
   refine ⟨?_, ?_⟩
   · rintro - w10 D10
     rintro _ rfl
     show OpOK _ _ _ _ _ _ _
     exact ok_pure (ro_load SufHeads_g3 rfl (by exact cellF (From.rfl_.next D10) (hb.rd 1 rfl))) rfl
   refine ⟨?_, ?_⟩
   · rintro - w11 D11
     rintro _ rfl
     show OpOK _ _ _ _ _ _ _
     exact ok_pure (ro_subN (b := 1) rfl rfl (by omega)) rfl
   refine ⟨?_, ?_⟩
   · rintro - w12 D12
     rintro _ rfl _ rfl
     show OpOK _ _ _ _ _ _ _
     exact ok_pure (ro_takeN (m := K - 1) SufHeads_e81 rfl rfl (by omega)) rfl
   refine ⟨?_, ?_⟩
   · intro h; cases h
   exact trivial
  case hmu =>
   rintro w14 D14
   rintro v14_3 ⟨q14, rfl, hq14, hz14⟩ _ rfl
   show MuOK _ _ _ _ _ _ _
   refine mu_append SufHeads_q81 rfl (by decide) rfl hq14 (From.rfl_.next D14).size rfl (by simp) ⟨_, _, rfl, (he.from_ (From.rfl_.next D14)).range (k := K - 1) (by omega)⟩ (by simp [Value.oneCell']) (by omega) (by omega) ?_
   intro A3 c3 w3 ho3 hg3
   exact ⟨D14.grew hg3 (fun k hk => by cases hk; exact hz14), ⟨A3, c3, by rw [show 1 + (K - 1) = K by omega], by rw [show 1 + (K - 1) = K by omega] at ho3; exact ho3⟩, fun t u ht h => muR_look (by repeat first | exact trivial | refine ⟨.inl rfl, ?_⟩ | refine ⟨.inr (fun _ h => h), ?_⟩) t u ht h⟩
  case hend =>
   rintro w15 D15
   rintro v3 _ _ rfl _ rfl _ rfl _ rfl _ rfl _ rfl _ rfl _ rfl _ rfl _ rfl v14 ⟨A14_15, c14_15, rfl, ho14_15⟩
   show St _ _ _ _ _ _ _
   rw [heads_list n K t hK0] at ho14_15
   obtain ⟨g, rfl⟩ := own_some ho14_15 hK0
   have hv := VJ.own ho14_15 hK0
   refine ass rfl ?_
   refine st_nil (nx_then (cd_ret ?_))
   refine res1 (v := .slice _ _ _) rfl rfl ?_
   exact ⟨⟨g, _, rfl, hv.2, hv.1⟩, (From.rfl_.next D15)⟩
end Go.Proofs.YtglndihdhaaccaaDoor

namespace Go.Proofs.YtglndihdhaaccaaDoor
open Go.RowKit
open Go.ChangeShapes Go.WideShapes Go.ChangeAt
open Go.Proofs.YtglndihdhaaccaaDoor.SA
theorem SufText_e81 : elemQ Tryd.prog 81 = some (21, 1) := by kernel_rfl
theorem SufText_m81 : makeQ Tryd.prog 81 = some (21, 4, (.int .i32 0)) := by kernel_rfl
theorem SufText_m107 : makeQ Tryd.prog 107 = some (4, 1, (.bool false)) := by kernel_rfl
theorem SufText_s3 : (Tryd.prog.underlying 3).isSome = true := by kernel_rfl
theorem SufText_i21 : Tryd.prog.underlying 21 = some (.int .i32) := by kernel_rfl
theorem SufText_bT : ∀ (a0 : Option Addr) (a1 a2 : Nat) (a3 : Int) (a4 : Option Addr) (a5 a6 : Nat) (a7 : Option Addr) (a8 a9 : Nat), Tryd.prog.built 124 [(0, .slice a0 a1 a2), (1, .int .i64 a3), (2, .slice a4 a5 a6), (4, .slice a7 a8 a9)] = some #[.slice a0 a1 a2, .int .i64 a3, .slice a4 a5 a6, .slice none 0 0, .slice a7 a8 a9] := by intros; kernel_rfl
theorem SufText_q81 : litQ Tryd.prog 81 = some (21, 1, 4, (.int .i32 0)) := by kernel_rfl
theorem SufText_l81 : (elemQ Tryd.prog 81).isSome = true := by kernel_rfl
theorem SufText_f124_2 : fieldQ Tryd.prog 124 2 = some 2 := by kernel_rfl
theorem SufText_g107 : aggQ Tryd.prog 107 = some false := by kernel_rfl
theorem SufText_e107 : elemQ Tryd.prog 107 = some (4, 1) := by kernel_rfl
theorem SufText_z4 : sizeQ Tryd.prog 4 = some 1 := by kernel_rfl
theorem SufText_g21 : aggQ Tryd.prog 21 = some false := by kernel_rfl
theorem SufText_g4 : aggQ Tryd.prog 4 = some false := by kernel_rfl
theorem SufText_f124_3 : fieldQ Tryd.prog 124 3 = some 3 := by kernel_rfl
theorem SufText_g81 : aggQ Tryd.prog 81 = some false := by kernel_rfl
theorem SufText_z81 : sizeQ Tryd.prog 81 = some 1 := by kernel_rfl
theorem SufText_f124_4 : fieldQ Tryd.prog 124 4 = some 4 := by kernel_rfl
theorem SufText_z21 : sizeQ Tryd.prog 21 = some 1 := by kernel_rfl
theorem VJ.rdN {w : World} {g K i : Nat} {t : Nat → Nat} (h : VJ w g K fun i => (t i : Nat)) (hi : i < K) : w.cell? ⟨g, i, none⟩ = some (.int .i32 ((t i : Nat) : Int)) := h.rd hi
theorem blk_ne {w : World} {g g2 t t2 : Nat} {cs cs2 : Array Value} (h : Blk w g t cs) (h2 : Blk w g2 t2 cs2) (hne : t ≠ t2) : g ≠ g2 := by
  rintro rfl
  unfold Blk at h h2
  rw [h] at h2
  simp only [Option.some.injEq, Obj.cells.injEq] at h2
  exact hne h2.2.1
/-- what rises, as far as it is known -/
noncomputable def rT (n : Nat) (t : Nat → Nat) (j : Nat) : Array Value := tabB n fun x => if j ≤ x then rb n t x else false
theorem rT_start {w : World} {q n : Nat} {t : Nat → Nat} (ht : Txt n t) (h : Blk w q 4 ((tabB n fun _ => false).setIfInBounds (n - 1) (.bool true))) : Blk w q 4 (rT n t (n - 1)) := by
  rw [tabB_set] at h
  have e : tabB n (updB (fun _ => false) (n - 1) true) = rT n t (n - 1) := tabB_congr fun x hx => by
    unfold updB
    by_cases e : x = n - 1
    · subst e; rw [if_pos rfl, if_pos (Nat.le_refl _)]; exact (rb_iff.2 (rz_last ht)).symm
    · rw [if_neg e, if_neg (by omega)]
  rwa [e] at h
theorem rT_put {w : World} {q n i : Nat} {t : Nat → Nat} {X : Bool} (hX : rb n t i = X) (h : Blk w q 4 ((rT n t (i + 1)).setIfInBounds i (.bool X))) : Blk w q 4 (rT n t i) := by
  subst hX
  unfold rT at h
  rw [tabB_set] at h
  have e : tabB n (updB (fun x => if i + 1 ≤ x then rb n t x else false) i (rb n t i)) = rT n t i := tabB_congr fun x hx => by
    unfold updB
    by_cases e : x = i
    · subst e; rw [if_pos rfl, if_pos (Nat.le_refl _)]
    · rw [if_neg e]
      show (if i + 1 ≤ x then rb n t x else false) = _
      by_cases h : i + 1 ≤ x
      · rw [if_pos h, if_pos (by omega)]
      · rw [if_neg h, if_neg (by omega)]
  rwa [e] at h
theorem rT_rd {w : World} {q n j i : Nat} {t : Nat → Nat} (h : Blk w q 4 (rT n t j)) (hj : j ≤ i) (hi : i < n) : w.cell? ⟨q, i, none⟩ = some (.bool (rb n t i)) := h.rd i (by unfold rT; rw [tabB_at hi, if_pos hj])
theorem rT_zero {n : Nat} {t : Nat → Nat} : rT n t 0 = tabB n (rb n t) := tabB_congr fun x _ => if_pos (Nat.zero_le _)
theorem rT_size {n j : Nat} {t : Nat → Nat} : (rT n t j).size = n := tabB_size
theorem rb_lt {n i : Nat} {t : Nat → Nat} (h : Txt n t) (hi : i + 1 < n) (hlt : t i < t (i + 1)) : rb n t i = true := rb_iff.2 ((rz_iff h hi).2 (.inl hlt))
theorem rb_gt {n i : Nat} {t : Nat → Nat} (h : Txt n t) (hi : i + 1 < n) (hlt : t (i + 1) < t i) : rb n t i = false := rb_not.2 fun e => by rcases (rz_iff h hi).1 e with a | a <;> omega
theorem rb_eq {n i : Nat} {t : Nat → Nat} (h : Txt n t) (hi : i + 1 < n) (he : t i = t (i + 1)) : rb n t i = rb n t (i + 1) := by
  rw [Bool.eq_iff_iff, rb_iff, rb_iff, rz_iff h hi]
  exact ⟨fun a => a.elim (fun a => by omega) (fun a => a.2), fun a => .inr ⟨he, a⟩⟩
open Classical in
/-- the starts below i -/
noncomputable def stL (n : Nat) (t : Nat → Nat) : Nat → List Nat
  | 0 => []
  | i + 1 => stL n t i ++ if lms n t i then [i] else []
theorem stL_yes {n i : Nat} {t : Nat → Nat} (hi : 0 < i) (hn : i < n) (h1 : rb n t i = true) (h2 : rb n t (i - 1) = false) : stL n t (i + 1) = stL n t i ++ [i] := by
  conv => lhs; unfold stL
  rw [if_pos ⟨hi, hn, rb_iff.1 h1, rb_not.1 h2⟩]
theorem stL_no {n i : Nat} {t : Nat → Nat} (h : rb n t i = false ∨ rb n t (i - 1) = true) : stL n t (i + 1) = stL n t i := by
  conv => lhs; unfold stL
  rw [if_neg, List.append_nil]
  rintro ⟨_, _, a, b⟩
  rcases h with h | h
  · exact rb_not.1 h a
  · exact b (rb_iff.1 h)
theorem stL_one {n : Nat} {t : Nat → Nat} : stL n t 1 = [] := by
  unfold stL
  rw [if_neg (fun h => absurd h.1 (Nat.lt_irrefl 0))]
  rfl
theorem stL_mem {n s : Nat} {t : Nat → Nat} : ∀ {i : Nat}, s ∈ stL n t i ↔ s < i ∧ lms n t s
  | 0 => by simp [stL]
  | i + 1 => by
    unfold stL
    rw [List.mem_append, stL_mem]
    split
    · rename_i h
      constructor
      · rintro (⟨a, b⟩ | a)
        · exact ⟨by omega, b⟩
        · simp only [List.mem_singleton] at a
          subst a
          exact ⟨by omega, h⟩
      · rintro ⟨a, b⟩
        by_cases e : s = i
        · exact .inr (by simp [e])
        · exact .inl ⟨by omega, b⟩
    · rename_i h
      constructor
      · rintro (⟨a, b⟩ | a)
        · exact ⟨by omega, b⟩
        · cases a
      · rintro ⟨a, b⟩
        refine .inl ⟨?_, b⟩
        rcases Nat.lt_or_ge s i with c | c
        · exact c
        · obtain rfl : s = i := by omega
          exact absurd b h
theorem stL_up {n : Nat} {t : Nat → Nat} : ∀ {i : Nat}, (stL n t i).Pairwise (· < ·)
  | 0 => by simp [stL]
  | i + 1 => by
    unfold stL
    rw [List.pairwise_append]
    refine ⟨stL_up, by split <;> simp, fun a ha b hb => ?_⟩
    split at hb
    · simp only [List.mem_singleton] at hb
      subst hb
      exact (stL_mem.1 ha).1
    · cases hb
theorem stL_len {n : Nat} {t : Nat → Nat} : ∀ {i : Nat}, (stL n t i).length ≤ i
  | 0 => by simp [stL]
  | i + 1 => by
    have := stL_len (n := n) (t := t) (i := i)
    unfold stL
    rw [List.length_append]
    split <;> simp <;> omega
noncomputable def stF (n : Nat) (t : Nat → Nat) (k : Nat) : Nat := (stL n t n)[k]?.getD 0
theorem stF_eq {n k : Nat} {t : Nat → Nat} (h : k < (stL n t n).length) : stF n t k = (stL n t n)[k] := by unfold stF; rw [List.getElem?_eq_getElem h]; rfl
theorem stF_starts (n : Nat) (t : Nat → Nat) : Starts n t (stL n t n).length (stF n t) := by
  refine ⟨fun k hk => ?_, fun a b hab hb => ?_, fun s hs => ?_⟩
  · rw [stF_eq hk]; exact (stL_mem.1 (List.getElem_mem hk)).2
  · rw [stF_eq hb, stF_eq (by omega)]
    exact List.pairwise_iff_getElem.1 stL_up a b (by omega) hb hab
  · obtain ⟨k, hk, e⟩ := List.getElem_of_mem (stL_mem.2 ⟨hs.2.1, hs⟩)
    exact ⟨k, hk, by rw [stF_eq hk, e]⟩
theorem stF_row {n : Nat} {t : Nat → Nat} : ((List.range (stL n t n).length).map fun k => ((stF n t k : Nat) : Int)) = (stL n t n).map fun x : Nat => (x : Int) := by
  apply List.ext_getElem
  · simp
  · intro k h1 h2
    have hk : k < (stL n t n).length := by simpa using h2
    simp [stF_eq hk]
/-- how many of the first k symbols are so -/
noncomputable def cT (n K : Nat) (t : Nat → Nat) (k : Nat) : Array Value := tabJ K fun c => ((cnt k fun i => t i = c : Nat) : Int)
theorem cT_rd {w : World} {p n K k c : Nat} {t : Nat → Nat} (h : Blk w p 21 (cT n K t k)) (hc : c < K) : w.cell? ⟨p, c, none⟩ = some (.int .i32 (cnt k fun i => t i = c : Nat)) := h.rd c (tabJ_at hc)
theorem cT_put {w : World} {p n K k : Nat} {t : Nat → Nat} (h : Blk w p 21 ((cT n K t k).setIfInBounds (t k) (jV (cnt k (fun i => t i = t k) + 1 : Nat)))) : Blk w p 21 (cT n K t (k + 1)) := by
  unfold cT at h
  rw [tabJ_set] at h
  have e : tabJ K (upd (fun c => ((cnt k fun i => t i = c : Nat) : Int)) (t k) ((cnt k (fun i => t i = t k) + 1 : Nat) : Int)) = cT n K t (k + 1) := tabJ_congr fun c _ => by
    conv => rhs; unfold cnt
    by_cases e : c = t k
    · subst e; rw [upd_same, if_pos rfl]
    · rw [upd_ne _ _ e, if_neg (fun h => e h.symm)]; rfl
  rwa [e] at h
/-- the ends, as far as they are known -/
noncomputable def eT (n K : Nat) (t : Nat → Nat) (c : Nat) : Array Value := tabJ K fun x => if x < c then ((less n t (x + 1) : Nat) : Int) else ((cnt n fun i => t i = x : Nat) : Int)
theorem eT_one {n K : Nat} {t : Nat → Nat} : cT n K t n = eT n K t 1 := tabJ_congr fun c _ => by
  by_cases h : c < 1
  · obtain rfl : c = 0 := by omega
    have e : less n t 0 = 0 := cnt_none fun i _ h => absurd h (by omega)
    have := less_succ (n := n) (t := t) 0
    rw [if_pos (by omega)]
    omega
  · rw [if_neg h]
theorem eT_lo {w : World} {p n K c x : Nat} {t : Nat → Nat} (h : Blk w p 21 (eT n K t c)) (hx : x + 1 = c) (hk : x < K) : w.cell? ⟨p, x, none⟩ = some (.int .i32 (less n t c : Nat)) := h.rd x (by unfold eT; rw [tabJ_at hk, if_pos (by omega), hx])
theorem eT_hi {w : World} {p n K c x : Nat} {t : Nat → Nat} (h : Blk w p 21 (eT n K t c)) (hx : ¬ x < c) (hk : x < K) : w.cell? ⟨p, x, none⟩ = some (.int .i32 (cnt n fun i => t i = x : Nat)) := h.rd x (by unfold eT; rw [tabJ_at hk, if_neg hx])
theorem eT_put {w : World} {p n K c : Nat} {t : Nat → Nat} (h : Blk w p 21 ((eT n K t c).setIfInBounds c (jV (less n t (c + 1) : Nat)))) : Blk w p 21 (eT n K t (c + 1)) := by
  unfold eT at h
  rw [tabJ_set] at h
  have e : tabJ K (upd (fun x => if x < c then ((less n t (x + 1) : Nat) : Int) else ((cnt n fun i => t i = x : Nat) : Int)) c ((less n t (c + 1) : Nat) : Int)) = eT n K t (c + 1) := tabJ_congr fun x _ => by
    by_cases e : x = c
    · subst e; rw [upd_same, if_pos (by omega)]
    · rw [upd_ne _ _ e]
      by_cases h : x < c
      · rw [if_pos h, if_pos (by omega)]
      · rw [if_neg h, if_neg (by omega)]
  rwa [e] at h
theorem eT_all {n K c : Nat} {t : Nat → Nat} (h : K ≤ c) : eT n K t c = tabJ K fun x => ((less n t (x + 1) : Nat) : Int) := tabJ_congr fun x hx => if_pos (by omega)
theorem less_le {n c : Nat} {t : Nat → Nat} : less n t c ≤ n := cnt_le_n n _
set_option maxHeartbeats 1500000 in
theorem newText_rt (gl n K : Nat) (t : Nat → Nat) (w : World) (hl : VJ w gl n (fun i => (t i : Nat))) (ht : Txt n t) (hkt : ∀ i, i < n → t i < K) (hn : n ≤ 200000) (hK : K ≤ 200000) :
    Rt Tryd.prog 44 [.slice (some ⟨gl, 0, none⟩) n n, .int .i64 (K : Nat)] w (fun v w' => (∃ b m ss, v = .pointer (some ⟨b, 0, none⟩) ∧ TextAt w' b n K t m ss ∧ Starts n t m ss) ∧ From w w') := by
  have hn0 := ht.pos
  refine enter (n := 147) Tryd.func44 rfl rfl rfl ?_
  refine cd_seq (cd_region ?_)
  refine asp rfl ?_
  refine st_nil (nx_then (cd_seq ?_))
  apply cd_drawn 10 [(12, eqp _), (13, eqp _), (14, eqp _), (15, eqp _), (16, fun v w' => ∃ q, v = .slice (some ⟨q, 0, none⟩) n n ∧ w.heap.size ≤ q ∧ Blk w' q 4 (tabB n fun _ => false)), (17, eqp _), (18, fun v w' => ∃ p, v = .slice (some ⟨p, 0, none⟩) K K ∧ w.heap.size ≤ p ∧ Blk w' p 21 (tabJ K fun _ => 0)), (19, fun v w' => ∃ q p, v = .agg #[.slice (some ⟨gl, 0, none⟩) n n, .int .i64 (K : Nat), .slice (some ⟨q, 0, none⟩) n n, .slice none 0 0, .slice (some ⟨p, 0, none⟩) K K] ∧ (w.heap.size ≤ q ∧ Blk w' q 4 (tabB n fun _ => false)) ∧ w.heap.size ≤ p ∧ Blk w' p 21 (tabJ K fun _ => 0)), (20, fun v w' => ∃ b q p, v = .pointer (some ⟨b, 0, none⟩) ∧ (w.heap.size ≤ b ∧ Blk w' b 124 #[.slice (some ⟨gl, 0, none⟩) n n, .int .i64 (K : Nat), .slice (some ⟨q, 0, none⟩) n n, .slice none 0 0, .slice (some ⟨p, 0, none⟩) K K]) ∧ (w.heap.size ≤ q ∧ Blk w' q 4 (tabB n fun _ => false)) ∧ w.heap.size ≤ p ∧ Blk w' p 21 (tabJ K fun _ => 0)), (5, fun v w' => ∃ b q p, v = .pointer (some ⟨b, 0, none⟩) ∧ (w.heap.size ≤ b ∧ Blk w' b 124 #[.slice (some ⟨gl, 0, none⟩) n n, .int .i64 (K : Nat), .slice (some ⟨q, 0, none⟩) n n, .slice none 0 0, .slice (some ⟨p, 0, none⟩) K K]) ∧ (w.heap.size ≤ q ∧ Blk w' q 4 (tabB n fun _ => false)) ∧ w.heap.size ≤ p ∧ Blk w' p 21 (tabJ K fun _ => 0))] (by kernel_rfl) (by kernel_rfl) ⟨eqp_mono _, eqp_mono _, eqp_mono _, eqp_mono _, (fun _ _ _ hF ⟨q, h1, h2, h3⟩ => ⟨q, h1, h2, h3.from_ hF⟩), eqp_mono _, (fun _ _ _ hF ⟨q, h1, h2, h3⟩ => ⟨q, h1, h2, h3.from_ hF⟩), (fun _ _ _ hF ⟨q, p, h1, ⟨h2, h3⟩, h4, h5⟩ => ⟨q, p, h1, ⟨h2, h3.from_ hF⟩, h4, h5.from_ hF⟩), (fun _ _ _ hF ⟨b, q, p, h1, ⟨h6, h7⟩, ⟨h2, h3⟩, h4, h5⟩ => ⟨b, q, p, h1, ⟨h6, h7.from_ hF⟩, ⟨h2, h3.from_ hF⟩, h4, h5.from_ hF⟩), (fun _ _ _ hF ⟨b, q, p, h1, ⟨h6, h7⟩, ⟨h2, h3⟩, h4, h5⟩ => ⟨b, q, p, h1, ⟨h6, h7.from_ hF⟩, ⟨h2, h3.from_ hF⟩, h4, h5.from_ hF⟩), trivial⟩
  case hop =>
   refine ⟨?_, ?_⟩
   · intro w2 D2
     show OpOK _ _ _ _ _ _ _
     exact ok_pure (ro_move (v := .slice _ _ _) rfl) rfl
   refine ⟨?_, ?_⟩
   · intro w3 D3
     show OpOK _ _ _ _ _ _ _
     exact ok_pure (ro_move (v := .int _ _) rfl) rfl
   refine ⟨?_, ?_⟩
   · intro w4 D4
     show OpOK _ _ _ _ _ _ _
     exact ok_pure (ro_move (v := .slice _ _ _) rfl) rfl
   refine ⟨?_, ?_⟩
   · intro w5 D5
     rintro _ rfl
     show OpOK _ _ _ _ _ _ _
     exact ok_pure (ro_len SufText_l81 rfl) rfl
   refine ⟨?_, ?_⟩
   · intro w6 D6
     rintro _ rfl
     show OpOK _ _ _ _ _ _ _
     exact ok_val (ro_make SufText_m107 rfl rfl rfl (by omega) (by omega)) (From.rfl_.new _) ⟨_, rfl, (From.rfl_.next D6).size, by rw [← tabB_zero]; exact Blk.new _ _ _⟩
   refine ⟨?_, ?_⟩
   · intro w7 D7
     show OpOK _ _ _ _ _ _ _
     exact ok_pure (ro_move (v := .int _ _) rfl) rfl
   refine ⟨?_, ?_⟩
   · intro w8 D8
     rintro _ rfl
     show OpOK _ _ _ _ _ _ _
     exact ok_val (ro_make SufText_m81 rfl rfl rfl (by omega) (by omega)) (From.rfl_.new _) ⟨_, rfl, (From.rfl_.next D8).size, by rw [← tabJ_zero]; exact Blk.new _ _ _⟩
   refine ⟨?_, ?_⟩
   · intro w9 D9
     rintro _ rfl _ rfl v9_16 ⟨q9, rfl, gq9, hq9⟩ v9_18 ⟨p9, rfl, gp9, hp9⟩
     show OpOK _ _ _ _ _ _ _
     exact ok_pure (ro_build (SufText_bT _ _ _ _ _ _ _ _ _ _)) ⟨_, _, rfl, ⟨gq9, hq9⟩, gp9, hp9⟩
   refine ⟨?_, ?_⟩
   · intro w10 D10
     rintro v10_19 ⟨q10, p10, rfl, ⟨gq10, hq10⟩, gp10, hp10⟩
     show OpOK _ _ _ _ _ _ _
     exact ok_val (ro_box rfl) (From.rfl_.new _) ⟨_, _, _, rfl, ⟨(From.rfl_.next D10).size, Blk.new _ _ _⟩, ⟨gq10, hq10.from_ (From.rfl_.new _)⟩, gp10, hp10.from_ (From.rfl_.new _)⟩
   refine ⟨?_, ?_⟩
   · intro w11 D11
     rintro v11_20 ⟨b11, q11, p11, rfl, ⟨gb11, hb11⟩, ⟨gq11, hq11⟩, gp11, hp11⟩
     show OpOK _ _ _ _ _ _ _
     exact ok_pure (ro_assign rfl) ⟨_, _, _, rfl, ⟨gb11, hb11⟩, ⟨gq11, hq11⟩, gp11, hp11⟩
   exact trivial
  case hend =>
   intro w12 D12
   rintro _ rfl _ rfl _ rfl _ rfl v16 ⟨q12, rfl, gq12, hq12⟩ _ rfl v18 ⟨p12, rfl, gp12, hp12⟩ v19 ⟨q12, p12, rfl, ⟨gq12, hq12⟩, gp12, hp12⟩ v20 ⟨b12, q12, p12, rfl, ⟨gb12, hb12⟩, ⟨gq12, hq12⟩, gp12, hp12⟩ v5 ⟨b, q, p, rfl, ⟨gb, hT⟩, ⟨gq, hR⟩, gp, hE⟩
   show St _ _ _ _ _ _ _
   obtain ⟨z, hz⟩ : ∃ z, z = (w12).heap.size := ⟨_, rfl⟩
   have hpz := hE.lt
   have hwz : w.heap.size ≤ z := by omega
   refine st_nil (nx_then (cd_seq (cd_region ?_)))
   refine mvs rfl ?_
   refine st_val (ro_len SufText_l81 rfl) ?_
   refine asi rfl ?_
   refine st_nil (nx_then (cd_seq (cd_region ?_)))
   refine mvp rfl ?_
   refine st_val (ro_nilCheck rfl) ?_
   refine st_val (ro_fieldAddr SufText_f124_2 rfl) ?_
   refine st_val (ro_load SufText_g107 rfl (by exact hT.rd 2 rfl)) ?_
   refine mvi rfl ?_
   refine st_val (ro_subN (b := 1) rfl rfl (by omega)) ?_
   refine st_val (ro_indexAddr0 SufText_e107 rfl rfl (by omega)) ?_
   refine st_put (v := .bool _) SufText_z4 rfl rfl rfl (hR) (by rw [tabB_size]; omega) ?_
   intro w13 O3 P3
   have hT3 := hT.only O3 (blk_ne hT hR (by decide))
   have hE3 := hE.only O3 (blk_ne hE hR (by decide))
   have hR3 := rT_start ht P3
   refine st_nil (nx_then (cd_seq (cd_seq (cd_region ?_))))
   refine mvi rfl ?_
   refine st_val (ro_sub64 rfl rfl (by omega)) ?_
   refine asi rfl ?_
   refine st_nil (nx_then (cd_block ?_))
   refine cd_loop (G := Nat) [32, 33, 34, 35, 36, 37, 38, 39, 40, 41, 42, 43, 44, 45, 46, 47, 48, 49, 50, 51, 52, 53, 54, 55, 56, 57, 58, 59, 60, 61, 62, 63, 64, 65, 66, 67, 68, 69, 70, 71, 72, 73] (fun j => [(7, .int .i64 ((j : Nat) - 1 : Int))]) (fun j w' => j ≤ n - 1 ∧ Blk w' b 124 #[.slice (some ⟨gl, 0, none⟩) n n, .int .i64 (K : Nat), .slice (some ⟨q, 0, none⟩) n n, .slice none 0 0, .slice (some ⟨p, 0, none⟩) K K] ∧ Blk w' q 4 (rT n t j) ∧ Blk w' p 21 (tabJ K fun _ => 0) ∧ z ≤ w'.heap.size ∧ From w w') (fun j => j) (n - 1) ⟨(int_eq (by omega)), trivial⟩ ?_ ?_
   · exact ⟨Nat.le_refl _, hT3.from_ From.rfl_, hR3.from_ From.rfl_, hE3.from_ From.rfl_, by rw [hz]; exact Nat.le_trans (Nat.le_of_eq rfl) (O3.size.symm ▸ Nat.le_refl _), ((From.rfl_.next D12).only O3 (gq))⟩
   rintro j ρ14 w14 ⟨hj, hT, hR, hE, hzs, hB⟩
   refine cd_seq (cd_seq (cd_region ?_))
   refine mvi rfl ?_
   refine st_val (ro_geq rfl rfl) ?_
   refine st_nil (nx_then ?_)
   refine cd_cond rfl (fun Q15 => ?_) (fun Q15 => ?_)
   · with_reducible replace Q15 := of_decide_eq_true Q15
     obtain ⟨i, rfl⟩ : ∃ i, j = i + 1 := ⟨j - 1, by omega⟩
     have e7 : (Value.int .i64 (((i + 1 : Nat) : Int) - 1)) = .int .i64 (i : Nat) := int_eq (by omega)
     rw [e7]
     refine cd_skip (nx_then (cd_seq (cd_block ?_)))
     rcases Nat.lt_trichotomy (t i) (t (i + 1)) with h1 | h1 | h1
     · have hX := rb_lt ht (by omega) h1
       apply cd_drawn 38 [(36, eqp _), (37, eqp _), (38, eqp _), (39, eqp _), (40, eqp _), (41, eqp _), (42, eqp _), (43, eqp _), (44, eqp _), (45, eqp _), (46, eqp _), (47, eqp _), (48, eqp _), (49, eqp _), (50, eqp _), (51, eqp _), (52, eqp _), (53, eqp _), (54, eqp _), (55, eqp _), (56, eqp _), (57, eqp _), (58, eqp _), (59, eqp _), (60, eqp _), (61, eqp _), (62, eqp _), (63, eqp _), (64, eqp _), (65, eqp _), (66, eqp _), (67, eqp _), (68, eqp _), (69, eqp _), (70, eqp _), (71, eqp _), (72, eqp _), (73, eqp _)] (by kernel_rfl) (by kernel_rfl) ⟨eqp_mono _, eqp_mono _, eqp_mono _, eqp_mono _, eqp_mono _, eqp_mono _, eqp_mono _, eqp_mono _, eqp_mono _, eqp_mono _, eqp_mono _, eqp_mono _, eqp_mono _, eqp_mono _, eqp_mono _, eqp_mono _, eqp_mono _, eqp_mono _, eqp_mono _, eqp_mono _, eqp_mono _, eqp_mono _, eqp_mono _, eqp_mono _, eqp_mono _, eqp_mono _, eqp_mono _, eqp_mono _, eqp_mono _, eqp_mono _, eqp_mono _, eqp_mono _, eqp_mono _, eqp_mono _, eqp_mono _, eqp_mono _, eqp_mono _, eqp_mono _, trivial⟩
       case hop =>
        refine ⟨?_, ?_⟩
        · intro w17 D17
          show OpOK _ _ _ _ _ _ _
          exact ok_pure (ro_move (v := .pointer _) rfl) rfl
        refine ⟨?_, ?_⟩
        · intro w18 D18
          rintro _ rfl
          show OpOK _ _ _ _ _ _ _
          exact ok_pure (ro_nilCheck rfl) rfl
        refine ⟨?_, ?_⟩
        · intro w19 D19
          rintro _ rfl
          show OpOK _ _ _ _ _ _ _
          exact ok_pure (ro_fieldAddr SufText_f124_2 rfl) rfl
        refine ⟨?_, ?_⟩
        · intro w20 D20
          rintro _ rfl
          show OpOK _ _ _ _ _ _ _
          exact ok_pure (ro_load SufText_g107 rfl (by exact (hT.from_ (From.rfl_.next D20)).rd 2 rfl)) rfl
        refine ⟨?_, ?_⟩
        · intro w21 D21
          show OpOK _ _ _ _ _ _ _
          exact ok_pure (ro_move (v := .int _ _) rfl) rfl
        refine ⟨?_, ?_⟩
        · intro w22 D22
          show OpOK _ _ _ _ _ _ _
          exact ok_pure (ro_move (v := .slice _ _ _) rfl) rfl
        refine ⟨?_, ?_⟩
        · intro w23 D23
          show OpOK _ _ _ _ _ _ _
          exact ok_pure (ro_move (v := .int _ _) rfl) rfl
        refine ⟨?_, ?_⟩
        · intro w24 D24
          rintro _ rfl _ rfl
          show OpOK _ _ _ _ _ _ _
          exact ok_pure (ro_indexAddr0 SufText_e81 rfl rfl (by omega)) rfl
        refine ⟨?_, ?_⟩
        · intro w25 D25
          rintro _ rfl
          show OpOK _ _ _ _ _ _ _
          exact ok_pure (ro_load SufText_g21 rfl (by exact (hl.from_ (hB.next D25)).rdN (by omega))) rfl
        refine ⟨?_, ?_⟩
        · intro w26 D26
          show OpOK _ _ _ _ _ _ _
          exact ok_pure (ro_move (v := .slice _ _ _) rfl) rfl
        refine ⟨?_, ?_⟩
        · intro w27 D27
          show OpOK _ _ _ _ _ _ _
          exact ok_pure (ro_move (v := .int _ _) rfl) rfl
        refine ⟨?_, ?_⟩
        · intro w28 D28
          rintro _ rfl
          show OpOK _ _ _ _ _ _ _
          exact ok_pure (ro_addN (b := 1) rfl rfl (by omega)) rfl
        refine ⟨?_, ?_⟩
        · intro w29 D29
          rintro _ rfl _ rfl
          show OpOK _ _ _ _ _ _ _
          exact ok_pure (ro_indexAddr0 SufText_e81 rfl rfl (by omega)) rfl
        refine ⟨?_, ?_⟩
        · intro w30 D30
          rintro _ rfl
          show OpOK _ _ _ _ _ _ _
          exact ok_pure (ro_load SufText_g21 rfl (by exact (hl.from_ (hB.next D30)).rdN (by omega))) rfl
        refine ⟨?_, ?_⟩
        · intro w31 D31
          rintro _ rfl _ rfl
          show OpOK _ _ _ _ _ _ _
          exact ok_pure (ro_bt (ro_lss rfl rfl) (decide_eq_true (by omega))) rfl
        refine ⟨?_, ?_⟩
        · intro w32 D32
          rintro _ rfl
          show OpOK _ _ _ _ _ _ _
          exact ok_pure (ro_move (v := .bool _) rfl) rfl
        refine ⟨?_, ?_⟩
        · intro w33 D33
          rintro _ rfl
          show OpOK _ _ _ _ _ _ _
          exact ok_gno rfl rfl rfl
        refine ⟨?_, ?_⟩
        · intro w34 D34
          rintro _ rfl
          show OpOK _ _ _ _ _ _ _
          exact ok_gno rfl rfl rfl
        refine ⟨?_, ?_⟩
        · intro w35 D35
          rintro _ rfl _ rfl _ rfl
          show OpOK _ _ _ _ _ _ _
          exact ok_gno rfl rfl rfl
        refine ⟨?_, ?_⟩
        · intro w36 D36
          rintro _ rfl _ rfl
          show OpOK _ _ _ _ _ _ _
          exact ok_gno rfl rfl rfl
        refine ⟨?_, ?_⟩
        · intro w37 D37
          rintro _ rfl
          show OpOK _ _ _ _ _ _ _
          exact ok_gno rfl rfl rfl
        refine ⟨?_, ?_⟩
        · intro w38 D38
          rintro _ rfl
          show OpOK _ _ _ _ _ _ _
          exact ok_gno rfl rfl rfl
        refine ⟨?_, ?_⟩
        · intro w39 D39
          rintro _ rfl _ rfl
          show OpOK _ _ _ _ _ _ _
          exact ok_gno rfl rfl rfl
        refine ⟨?_, ?_⟩
        · intro w40 D40
          rintro _ rfl _ rfl _ rfl
          show OpOK _ _ _ _ _ _ _
          exact ok_gno rfl rfl rfl
        refine ⟨?_, ?_⟩
        · intro w41 D41
          rintro _ rfl _ rfl
          show OpOK _ _ _ _ _ _ _
          exact ok_gno rfl rfl rfl
        refine ⟨?_, ?_⟩
        · intro w42 D42
          rintro _ rfl _ rfl _ rfl
          show OpOK _ _ _ _ _ _ _
          exact ok_gno rfl rfl rfl
        refine ⟨?_, ?_⟩
        · intro w43 D43
          rintro _ rfl _ rfl
          show OpOK _ _ _ _ _ _ _
          exact ok_gno rfl rfl rfl
        refine ⟨?_, ?_⟩
        · intro w44 D44
          rintro _ rfl
          show OpOK _ _ _ _ _ _ _
          exact ok_gund rfl rfl
        refine ⟨?_, ?_⟩
        · intro w45 D45
          rintro _ rfl _ rfl
          show OpOK _ _ _ _ _ _ _
          exact ok_gund rfl rfl
        refine ⟨?_, ?_⟩
        · intro w46 D46
          rintro _ rfl _ rfl
          show OpOK _ _ _ _ _ _ _
          exact ok_gund rfl rfl
        refine ⟨?_, ?_⟩
        · intro w47 D47
          rintro _ rfl _ rfl
          show OpOK _ _ _ _ _ _ _
          exact ok_gund rfl rfl
        refine ⟨?_, ?_⟩
        · intro w48 D48
          rintro _ rfl
          show OpOK _ _ _ _ _ _ _
          exact ok_gund rfl rfl
        refine ⟨?_, ?_⟩
        · intro w49 D49
          rintro _ rfl _ rfl
          show OpOK _ _ _ _ _ _ _
          exact ok_gund rfl rfl
        refine ⟨?_, ?_⟩
        · intro w50 D50
          rintro _ rfl _ rfl _ rfl
          show OpOK _ _ _ _ _ _ _
          exact ok_gund rfl rfl
        refine ⟨?_, ?_⟩
        · intro w51 D51
          rintro _ rfl _ rfl
          show OpOK _ _ _ _ _ _ _
          exact ok_gund rfl rfl
        refine ⟨?_, ?_⟩
        · intro w52 D52
          rintro _ rfl _ rfl _ rfl
          show OpOK _ _ _ _ _ _ _
          exact ok_gno rfl rfl rfl
        refine ⟨?_, ?_⟩
        · intro w53 D53
          rintro _ rfl _ rfl
          show OpOK _ _ _ _ _ _ _
          exact ok_pure (ro_pickT (v := .bool _) rfl rfl) rfl
        refine ⟨?_, ?_⟩
        · intro w54 D54
          rintro _ rfl _ rfl
          show OpOK _ _ _ _ _ _ _
          exact ok_pure (ro_indexAddr0 SufText_e107 rfl rfl (by omega)) rfl
        exact trivial
       case hend =>
        intro w55 D55
        rintro _ rfl _ rfl _ rfl _ rfl _ rfl _ rfl _ rfl _ rfl _ rfl _ rfl _ rfl _ rfl _ rfl _ rfl _ rfl _ rfl _ rfl _ rfl _ rfl _ rfl _ rfl _ rfl _ rfl _ rfl _ rfl _ rfl _ rfl _ rfl _ rfl _ rfl _ rfl _ rfl _ rfl _ rfl _ rfl _ rfl _ rfl _ rfl
        show St _ _ _ _ _ _ _
        have hT7q := hT.from_ D55
        have hR7q := hR.from_ D55
        have hE7q := hE.from_ D55
        have hzs7q := Nat.le_trans hzs D55.size
        refine st_put (v := .bool _) SufText_z4 rfl rfl rfl (hR7q) (by rw [rT_size]; omega) ?_
        intro w56 O7 P7
        have hT7 := hT7q.only O7 (blk_ne hT7q hR7q (by decide))
        have hE7 := hE7q.only O7 (blk_ne hE7q hR7q (by decide))
        have hR7 := rT_put hX P7
        have hzs7 : z ≤ (w56).heap.size := by rw [O7.size]; exact hzs7q
        refine st_nil (nx_block (nx_then (cd_region ?_)))
        refine mvi rfl ?_
        refine st_val (ro_sub64 rfl rfl (by omega)) ?_
        refine asi rfl ?_
        refine st_nil ?_
        refine nx_cut (i) ⟨(by first | rfl | (refine int_eq ?_; omega)), trivial⟩ (by (iterate 86 refine agr_cons rfl ?_); exact agr_rfl) ⟨?_, ?_⟩
        · exact ⟨by omega, hT7.from_ From.rfl_, hR7.from_ From.rfl_, hE7.from_ From.rfl_, Nat.le_trans hzs7 (From.rfl_).size, ((hB.next D55).only O7 (gq))⟩
        · show i < i + 1; omega
     · have hX := rb_eq ht (by omega) h1
       apply cd_drawn 38 [(36, eqp _), (37, eqp _), (38, eqp _), (39, eqp _), (40, eqp _), (41, eqp _), (42, eqp _), (43, eqp _), (44, eqp _), (45, eqp _), (46, eqp _), (47, eqp _), (48, eqp _), (49, eqp _), (50, eqp _), (51, eqp _), (52, eqp _), (53, eqp _), (54, eqp _), (55, eqp _), (56, eqp _), (57, eqp _), (58, eqp _), (59, eqp _), (60, eqp _), (61, eqp _), (62, eqp _), (63, eqp _), (64, eqp _), (65, eqp _), (66, eqp _), (67, eqp _), (68, eqp _), (69, eqp _), (70, eqp _), (71, eqp _), (72, eqp _), (73, eqp _)] (by kernel_rfl) (by kernel_rfl) ⟨eqp_mono _, eqp_mono _, eqp_mono _, eqp_mono _, eqp_mono _, eqp_mono _, eqp_mono _, eqp_mono _, eqp_mono _, eqp_mono _, eqp_mono _, eqp_mono _, eqp_mono _, eqp_mono _, eqp_mono _, eqp_mono _, eqp_mono _, eqp_mono _, eqp_mono _, eqp_mono _, eqp_mono _, eqp_mono _, eqp_mono _, eqp_mono _, eqp_mono _, eqp_mono _, eqp_mono _, eqp_mono _, eqp_mono _, eqp_mono _, eqp_mono _, eqp_mono _, eqp_mono _, eqp_mono _, eqp_mono _, eqp_mono _, eqp_mono _, eqp_mono _, trivial⟩
       case hop =>
        refine ⟨?_, ?_⟩
        · intro w58 D58
          show OpOK _ _ _ _ _ _ _
          exact ok_pure (ro_move (v := .pointer _) rfl) rfl
        refine ⟨?_, ?_⟩
        · intro w59 D59
          rintro _ rfl
          show OpOK _ _ _ _ _ _ _
          exact ok_pure (ro_nilCheck rfl) rfl
        refine ⟨?_, ?_⟩
        · intro w60 D60
          rintro _ rfl
          show OpOK _ _ _ _ _ _ _
          exact ok_pure (ro_fieldAddr SufText_f124_2 rfl) rfl
        refine ⟨?_, ?_⟩
        · intro w61 D61
          rintro _ rfl
          show OpOK _ _ _ _ _ _ _
          exact ok_pure (ro_load SufText_g107 rfl (by exact (hT.from_ (From.rfl_.next D61)).rd 2 rfl)) rfl
        refine ⟨?_, ?_⟩
        · intro w62 D62
          show OpOK _ _ _ _ _ _ _
          exact ok_pure (ro_move (v := .int _ _) rfl) rfl
        refine ⟨?_, ?_⟩
        · intro w63 D63
          show OpOK _ _ _ _ _ _ _
          exact ok_pure (ro_move (v := .slice _ _ _) rfl) rfl
        refine ⟨?_, ?_⟩
        · intro w64 D64
          show OpOK _ _ _ _ _ _ _
          exact ok_pure (ro_move (v := .int _ _) rfl) rfl
        refine ⟨?_, ?_⟩
        · intro w65 D65
          rintro _ rfl _ rfl
          show OpOK _ _ _ _ _ _ _
          exact ok_pure (ro_indexAddr0 SufText_e81 rfl rfl (by omega)) rfl
        refine ⟨?_, ?_⟩
        · intro w66 D66
          rintro _ rfl
          show OpOK _ _ _ _ _ _ _
          exact ok_pure (ro_load SufText_g21 rfl (by exact (hl.from_ (hB.next D66)).rdN (by omega))) rfl
        refine ⟨?_, ?_⟩
        · intro w67 D67
          show OpOK _ _ _ _ _ _ _
          exact ok_pure (ro_move (v := .slice _ _ _) rfl) rfl
        refine ⟨?_, ?_⟩
        · intro w68 D68
          show OpOK _ _ _ _ _ _ _
          exact ok_pure (ro_move (v := .int _ _) rfl) rfl
        refine ⟨?_, ?_⟩
        · intro w69 D69
          rintro _ rfl
          show OpOK _ _ _ _ _ _ _
          exact ok_pure (ro_addN (b := 1) rfl rfl (by omega)) rfl
        refine ⟨?_, ?_⟩
        · intro w70 D70
          rintro _ rfl _ rfl
          show OpOK _ _ _ _ _ _ _
          exact ok_pure (ro_indexAddr0 SufText_e81 rfl rfl (by omega)) rfl
        refine ⟨?_, ?_⟩
        · intro w71 D71
          rintro _ rfl
          show OpOK _ _ _ _ _ _ _
          exact ok_pure (ro_load SufText_g21 rfl (by exact (hl.from_ (hB.next D71)).rdN (by omega))) rfl
        refine ⟨?_, ?_⟩
        · intro w72 D72
          rintro _ rfl _ rfl
          show OpOK _ _ _ _ _ _ _
          exact ok_pure (ro_bf (ro_lss rfl rfl) (decide_eq_false (by omega))) rfl
        refine ⟨?_, ?_⟩
        · intro w73 D73
          rintro _ rfl
          show OpOK _ _ _ _ _ _ _
          exact ok_pure (ro_move (v := .bool _) rfl) rfl
        refine ⟨?_, ?_⟩
        · intro w74 D74
          rintro _ rfl
          show OpOK _ _ _ _ _ _ _
          exact ok_gpure rfl (ro_move (v := .slice _ _ _) rfl) rfl
        refine ⟨?_, ?_⟩
        · intro w75 D75
          rintro _ rfl
          show OpOK _ _ _ _ _ _ _
          exact ok_gpure rfl (ro_move (v := .int _ _) rfl) rfl
        refine ⟨?_, ?_⟩
        · intro w76 D76
          rintro _ rfl _ rfl _ rfl
          show OpOK _ _ _ _ _ _ _
          exact ok_gpure rfl (ro_indexAddr0 SufText_e81 rfl rfl (by omega)) rfl
        refine ⟨?_, ?_⟩
        · intro w77 D77
          rintro _ rfl _ rfl
          show OpOK _ _ _ _ _ _ _
          exact ok_gpure rfl (ro_load SufText_g21 rfl (by exact (hl.from_ (hB.next D77)).rdN (by omega))) rfl
        refine ⟨?_, ?_⟩
        · intro w78 D78
          rintro _ rfl
          show OpOK _ _ _ _ _ _ _
          exact ok_gpure rfl (ro_move (v := .slice _ _ _) rfl) rfl
        refine ⟨?_, ?_⟩
        · intro w79 D79
          rintro _ rfl
          show OpOK _ _ _ _ _ _ _
          exact ok_gpure rfl (ro_move (v := .int _ _) rfl) rfl
        refine ⟨?_, ?_⟩
        · intro w80 D80
          rintro _ rfl _ rfl
          show OpOK _ _ _ _ _ _ _
          exact ok_gpure rfl (ro_addN (b := 1) rfl rfl (by omega)) rfl
        refine ⟨?_, ?_⟩
        · intro w81 D81
          rintro _ rfl _ rfl _ rfl
          show OpOK _ _ _ _ _ _ _
          exact ok_gpure rfl (ro_indexAddr0 SufText_e81 rfl rfl (by omega)) rfl
        refine ⟨?_, ?_⟩
        · intro w82 D82
          rintro _ rfl _ rfl
          show OpOK _ _ _ _ _ _ _
          exact ok_gpure rfl (ro_load SufText_g21 rfl (by exact (hl.from_ (hB.next D82)).rdN (by omega))) rfl
        refine ⟨?_, ?_⟩
        · intro w83 D83
          rintro _ rfl _ rfl _ rfl
          show OpOK _ _ _ _ _ _ _
          exact ok_gpure rfl (ro_bt (ro_eql rfl rfl) (by rw [h1]; exact beq_self_eq_true _)) rfl
        refine ⟨?_, ?_⟩
        · intro w84 D84
          rintro _ rfl _ rfl
          show OpOK _ _ _ _ _ _ _
          exact ok_gpure rfl (ro_move (v := .bool _) rfl) rfl
        refine ⟨?_, ?_⟩
        · intro w85 D85
          rintro _ rfl
          show OpOK _ _ _ _ _ _ _
          exact ok_gpure rfl (ro_move (v := .pointer _) rfl) rfl
        refine ⟨?_, ?_⟩
        · intro w86 D86
          rintro _ rfl _ rfl
          show OpOK _ _ _ _ _ _ _
          exact ok_gpure rfl (ro_nilCheck rfl) rfl
        refine ⟨?_, ?_⟩
        · intro w87 D87
          rintro _ rfl _ rfl
          show OpOK _ _ _ _ _ _ _
          exact ok_gpure rfl (ro_fieldAddr SufText_f124_2 rfl) rfl
        refine ⟨?_, ?_⟩
        · intro w88 D88
          rintro _ rfl _ rfl
          show OpOK _ _ _ _ _ _ _
          exact ok_gpure rfl (ro_load SufText_g107 rfl (by exact (hT.from_ (From.rfl_.next D88)).rd 2 rfl)) rfl
        refine ⟨?_, ?_⟩
        · intro w89 D89
          rintro _ rfl
          show OpOK _ _ _ _ _ _ _
          exact ok_gpure rfl (ro_move (v := .int _ _) rfl) rfl
        refine ⟨?_, ?_⟩
        · intro w90 D90
          rintro _ rfl _ rfl
          show OpOK _ _ _ _ _ _ _
          exact ok_gpure rfl (ro_addN (b := 1) rfl rfl (by omega)) rfl
        refine ⟨?_, ?_⟩
        · intro w91 D91
          rintro _ rfl _ rfl _ rfl
          show OpOK _ _ _ _ _ _ _
          exact ok_gpure rfl (ro_indexAddr0 SufText_e107 rfl rfl (by omega)) rfl
        refine ⟨?_, ?_⟩
        · intro w92 D92
          rintro _ rfl _ rfl
          show OpOK _ _ _ _ _ _ _
          exact ok_gpure rfl (ro_load SufText_g4 rfl (by exact rT_rd (hR.from_ (From.rfl_.next D92)) (Nat.le_refl _) (by omega))) rfl
        refine ⟨?_, ?_⟩
        · intro w93 D93
          rintro _ rfl _ rfl _ rfl
          show OpOK _ _ _ _ _ _ _
          exact ok_gpure rfl (ro_pickT (v := .bool _) rfl rfl) rfl
        refine ⟨?_, ?_⟩
        · intro w94 D94
          rintro _ rfl _ rfl
          show OpOK _ _ _ _ _ _ _
          exact ok_pure (ro_pickF (v := .bool _) rfl rfl) rfl
        refine ⟨?_, ?_⟩
        · intro w95 D95
          rintro _ rfl _ rfl
          show OpOK _ _ _ _ _ _ _
          exact ok_pure (ro_indexAddr0 SufText_e107 rfl rfl (by omega)) rfl
        exact trivial
       case hend =>
        intro w96 D96
        rintro _ rfl _ rfl _ rfl _ rfl _ rfl _ rfl _ rfl _ rfl _ rfl _ rfl _ rfl _ rfl _ rfl _ rfl _ rfl _ rfl _ rfl _ rfl _ rfl _ rfl _ rfl _ rfl _ rfl _ rfl _ rfl _ rfl _ rfl _ rfl _ rfl _ rfl _ rfl _ rfl _ rfl _ rfl _ rfl _ rfl _ rfl _ rfl
        show St _ _ _ _ _ _ _
        have hT7q := hT.from_ D96
        have hR7q := hR.from_ D96
        have hE7q := hE.from_ D96
        have hzs7q := Nat.le_trans hzs D96.size
        refine st_put (v := .bool _) SufText_z4 rfl rfl rfl (hR7q) (by rw [rT_size]; omega) ?_
        intro w97 O7 P7
        have hT7 := hT7q.only O7 (blk_ne hT7q hR7q (by decide))
        have hE7 := hE7q.only O7 (blk_ne hE7q hR7q (by decide))
        have hR7 := rT_put hX P7
        have hzs7 : z ≤ (w97).heap.size := by rw [O7.size]; exact hzs7q
        refine st_nil (nx_block (nx_then (cd_region ?_)))
        refine mvi rfl ?_
        refine st_val (ro_sub64 rfl rfl (by omega)) ?_
        refine asi rfl ?_
        refine st_nil ?_
        refine nx_cut (i) ⟨(by first | rfl | (refine int_eq ?_; omega)), trivial⟩ (by (iterate 86 refine agr_cons rfl ?_); exact agr_rfl) ⟨?_, ?_⟩
        · exact ⟨by omega, hT7.from_ From.rfl_, hR7.from_ From.rfl_, hE7.from_ From.rfl_, Nat.le_trans hzs7 (From.rfl_).size, ((hB.next D96).only O7 (gq))⟩
        · show i < i + 1; omega
     have hX := rb_gt ht (by omega) h1
     apply cd_drawn 38 [(36, eqp _), (37, eqp _), (38, eqp _), (39, eqp _), (40, eqp _), (41, eqp _), (42, eqp _), (43, eqp _), (44, eqp _), (45, eqp _), (46, eqp _), (47, eqp _), (48, eqp _), (49, eqp _), (50, eqp _), (51, eqp _), (52, eqp _), (53, eqp _), (54, eqp _), (55, eqp _), (56, eqp _), (57, eqp _), (58, eqp _), (59, eqp _), (60, eqp _), (61, eqp _), (62, eqp _), (63, eqp _), (64, eqp _), (65, eqp _), (66, eqp _), (67, eqp _), (68, eqp _), (69, eqp _), (70, eqp _), (71, eqp _), (72, eqp _), (73, eqp _)] (by kernel_rfl) (by kernel_rfl) ⟨eqp_mono _, eqp_mono _, eqp_mono _, eqp_mono _, eqp_mono _, eqp_mono _, eqp_mono _, eqp_mono _, eqp_mono _, eqp_mono _, eqp_mono _, eqp_mono _, eqp_mono _, eqp_mono _, eqp_mono _, eqp_mono _, eqp_mono _, eqp_mono _, eqp_mono _, eqp_mono _, eqp_mono _, eqp_mono _, eqp_mono _, eqp_mono _, eqp_mono _, eqp_mono _, eqp_mono _, eqp_mono _, eqp_mono _, eqp_mono _, eqp_mono _, eqp_mono _, eqp_mono _, eqp_mono _, eqp_mono _, eqp_mono _, eqp_mono _, eqp_mono _, trivial⟩
     case hop =>
      refine ⟨?_, ?_⟩
      · intro w99 D99
        show OpOK _ _ _ _ _ _ _
        exact ok_pure (ro_move (v := .pointer _) rfl) rfl
      refine ⟨?_, ?_⟩
      · intro w100 D100
        rintro _ rfl
        show OpOK _ _ _ _ _ _ _
        exact ok_pure (ro_nilCheck rfl) rfl
      refine ⟨?_, ?_⟩
      · intro w101 D101
        rintro _ rfl
        show OpOK _ _ _ _ _ _ _
        exact ok_pure (ro_fieldAddr SufText_f124_2 rfl) rfl
      refine ⟨?_, ?_⟩
      · intro w102 D102
        rintro _ rfl
        show OpOK _ _ _ _ _ _ _
        exact ok_pure (ro_load SufText_g107 rfl (by exact (hT.from_ (From.rfl_.next D102)).rd 2 rfl)) rfl
      refine ⟨?_, ?_⟩
      · intro w103 D103
        show OpOK _ _ _ _ _ _ _
        exact ok_pure (ro_move (v := .int _ _) rfl) rfl
      refine ⟨?_, ?_⟩
      · intro w104 D104
        show OpOK _ _ _ _ _ _ _
        exact ok_pure (ro_move (v := .slice _ _ _) rfl) rfl
      refine ⟨?_, ?_⟩
      · intro w105 D105
        show OpOK _ _ _ _ _ _ _
        exact ok_pure (ro_move (v := .int _ _) rfl) rfl
      refine ⟨?_, ?_⟩
      · intro w106 D106
        rintro _ rfl _ rfl
        show OpOK _ _ _ _ _ _ _
        exact ok_pure (ro_indexAddr0 SufText_e81 rfl rfl (by omega)) rfl
      refine ⟨?_, ?_⟩
      · intro w107 D107
        rintro _ rfl
        show OpOK _ _ _ _ _ _ _
        exact ok_pure (ro_load SufText_g21 rfl (by exact (hl.from_ (hB.next D107)).rdN (by omega))) rfl
      refine ⟨?_, ?_⟩
      · intro w108 D108
        show OpOK _ _ _ _ _ _ _
        exact ok_pure (ro_move (v := .slice _ _ _) rfl) rfl
      refine ⟨?_, ?_⟩
      · intro w109 D109
        show OpOK _ _ _ _ _ _ _
        exact ok_pure (ro_move (v := .int _ _) rfl) rfl
      refine ⟨?_, ?_⟩
      · intro w110 D110
        rintro _ rfl
        show OpOK _ _ _ _ _ _ _
        exact ok_pure (ro_addN (b := 1) rfl rfl (by omega)) rfl
      refine ⟨?_, ?_⟩
      · intro w111 D111
        rintro _ rfl _ rfl
        show OpOK _ _ _ _ _ _ _
        exact ok_pure (ro_indexAddr0 SufText_e81 rfl rfl (by omega)) rfl
      refine ⟨?_, ?_⟩
      · intro w112 D112
        rintro _ rfl
        show OpOK _ _ _ _ _ _ _
        exact ok_pure (ro_load SufText_g21 rfl (by exact (hl.from_ (hB.next D112)).rdN (by omega))) rfl
      refine ⟨?_, ?_⟩
      · intro w113 D113
        rintro _ rfl _ rfl
        show OpOK _ _ _ _ _ _ _
        exact ok_pure (ro_bf (ro_lss rfl rfl) (decide_eq_false (by omega))) rfl
      refine ⟨?_, ?_⟩
      · intro w114 D114
        rintro _ rfl
        show OpOK _ _ _ _ _ _ _
        exact ok_pure (ro_move (v := .bool _) rfl) rfl
      refine ⟨?_, ?_⟩
      · intro w115 D115
        rintro _ rfl
        show OpOK _ _ _ _ _ _ _
        exact ok_gpure rfl (ro_move (v := .slice _ _ _) rfl) rfl
      refine ⟨?_, ?_⟩
      · intro w116 D116
        rintro _ rfl
        show OpOK _ _ _ _ _ _ _
        exact ok_gpure rfl (ro_move (v := .int _ _) rfl) rfl
      refine ⟨?_, ?_⟩
      · intro w117 D117
        rintro _ rfl _ rfl _ rfl
        show OpOK _ _ _ _ _ _ _
        exact ok_gpure rfl (ro_indexAddr0 SufText_e81 rfl rfl (by omega)) rfl
      refine ⟨?_, ?_⟩
      · intro w118 D118
        rintro _ rfl _ rfl
        show OpOK _ _ _ _ _ _ _
        exact ok_gpure rfl (ro_load SufText_g21 rfl (by exact (hl.from_ (hB.next D118)).rdN (by omega))) rfl
      refine ⟨?_, ?_⟩
      · intro w119 D119
        rintro _ rfl
        show OpOK _ _ _ _ _ _ _
        exact ok_gpure rfl (ro_move (v := .slice _ _ _) rfl) rfl
      refine ⟨?_, ?_⟩
      · intro w120 D120
        rintro _ rfl
        show OpOK _ _ _ _ _ _ _
        exact ok_gpure rfl (ro_move (v := .int _ _) rfl) rfl
      refine ⟨?_, ?_⟩
      · intro w121 D121
        rintro _ rfl _ rfl
        show OpOK _ _ _ _ _ _ _
        exact ok_gpure rfl (ro_addN (b := 1) rfl rfl (by omega)) rfl
      refine ⟨?_, ?_⟩
      · intro w122 D122
        rintro _ rfl _ rfl _ rfl
        show OpOK _ _ _ _ _ _ _
        exact ok_gpure rfl (ro_indexAddr0 SufText_e81 rfl rfl (by omega)) rfl
      refine ⟨?_, ?_⟩
      · intro w123 D123
        rintro _ rfl _ rfl
        show OpOK _ _ _ _ _ _ _
        exact ok_gpure rfl (ro_load SufText_g21 rfl (by exact (hl.from_ (hB.next D123)).rdN (by omega))) rfl
      refine ⟨?_, ?_⟩
      · intro w124 D124
        rintro _ rfl _ rfl _ rfl
        show OpOK _ _ _ _ _ _ _
        exact ok_gpure rfl (ro_bf (ro_eql rfl rfl) (beq_false_of_ne (by omega))) rfl
      refine ⟨?_, ?_⟩
      · intro w125 D125
        rintro _ rfl _ rfl
        show OpOK _ _ _ _ _ _ _
        exact ok_gpure rfl (ro_move (v := .bool _) rfl) rfl
      refine ⟨?_, ?_⟩
      · intro w126 D126
        rintro _ rfl
        show OpOK _ _ _ _ _ _ _
        exact ok_gno rfl rfl rfl
      refine ⟨?_, ?_⟩
      · intro w127 D127
        rintro _ rfl _ rfl
        show OpOK _ _ _ _ _ _ _
        exact ok_gno rfl rfl rfl
      refine ⟨?_, ?_⟩
      · intro w128 D128
        rintro _ rfl _ rfl
        show OpOK _ _ _ _ _ _ _
        exact ok_gno rfl rfl rfl
      refine ⟨?_, ?_⟩
      · intro w129 D129
        rintro _ rfl _ rfl
        show OpOK _ _ _ _ _ _ _
        exact ok_gno rfl rfl rfl
      refine ⟨?_, ?_⟩
      · intro w130 D130
        rintro _ rfl
        show OpOK _ _ _ _ _ _ _
        exact ok_gno rfl rfl rfl
      refine ⟨?_, ?_⟩
      · intro w131 D131
        rintro _ rfl _ rfl
        show OpOK _ _ _ _ _ _ _
        exact ok_gno rfl rfl rfl
      refine ⟨?_, ?_⟩
      · intro w132 D132
        rintro _ rfl _ rfl _ rfl
        show OpOK _ _ _ _ _ _ _
        exact ok_gno rfl rfl rfl
      refine ⟨?_, ?_⟩
      · intro w133 D133
        rintro _ rfl _ rfl
        show OpOK _ _ _ _ _ _ _
        exact ok_gno rfl rfl rfl
      refine ⟨?_, ?_⟩
      · intro w134 D134
        rintro _ rfl _ rfl _ rfl
        show OpOK _ _ _ _ _ _ _
        exact ok_gpure rfl (ro_pickF (v := .bool _) rfl rfl) rfl
      refine ⟨?_, ?_⟩
      · intro w135 D135
        rintro _ rfl _ rfl
        show OpOK _ _ _ _ _ _ _
        exact ok_pure (ro_pickF (v := .bool _) rfl rfl) rfl
      refine ⟨?_, ?_⟩
      · intro w136 D136
        rintro _ rfl _ rfl
        show OpOK _ _ _ _ _ _ _
        exact ok_pure (ro_indexAddr0 SufText_e107 rfl rfl (by omega)) rfl
      exact trivial
     case hend =>
      intro w137 D137
      rintro _ rfl _ rfl _ rfl _ rfl _ rfl _ rfl _ rfl _ rfl _ rfl _ rfl _ rfl _ rfl _ rfl _ rfl _ rfl _ rfl _ rfl _ rfl _ rfl _ rfl _ rfl _ rfl _ rfl _ rfl _ rfl _ rfl _ rfl _ rfl _ rfl _ rfl _ rfl _ rfl _ rfl _ rfl _ rfl _ rfl _ rfl _ rfl
      show St _ _ _ _ _ _ _
      have hT7q := hT.from_ D137
      have hR7q := hR.from_ D137
      have hE7q := hE.from_ D137
      have hzs7q := Nat.le_trans hzs D137.size
      refine st_put (v := .bool _) SufText_z4 rfl rfl rfl (hR7q) (by rw [rT_size]; omega) ?_
      intro w138 O7 P7
      have hT7 := hT7q.only O7 (blk_ne hT7q hR7q (by decide))
      have hE7 := hE7q.only O7 (blk_ne hE7q hR7q (by decide))
      have hR7 := rT_put hX P7
      have hzs7 : z ≤ (w138).heap.size := by rw [O7.size]; exact hzs7q
      refine st_nil (nx_block (nx_then (cd_region ?_)))
      refine mvi rfl ?_
      refine st_val (ro_sub64 rfl rfl (by omega)) ?_
      refine asi rfl ?_
      refine st_nil ?_
      refine nx_cut (i) ⟨(by first | rfl | (refine int_eq ?_; omega)), trivial⟩ (by (iterate 86 refine agr_cons rfl ?_); exact agr_rfl) ⟨?_, ?_⟩
      · exact ⟨by omega, hT7.from_ From.rfl_, hR7.from_ From.rfl_, hE7.from_ From.rfl_, Nat.le_trans hzs7 (From.rfl_).size, ((hB.next D137).only O7 (gq))⟩
      · show i < i + 1; omega
   with_reducible replace Q15 := of_decide_eq_false Q15
   refine cd_exit ?_
   refine ex_then (ex_then (ex_block (nx_then (cd_seq (cd_seq (cd_region ?_))))))
   refine asi rfl ?_
   refine st_nil (nx_then (cd_block ?_))
   refine cd_loop (G := Nat × Option Addr × Nat) [74, 75, 76, 77, 78, 79, 80, 81, 82, 83, 84, 85, 86, 87, 88, 89, 90, 91, 92, 93, 94, 95, 96, 97, 98, 99, 100, 101, 102, 103, 104, 105, 106, 107] (fun (i, _, _) => [(8, .int .i64 (i : Nat))]) (fun (i, A3, c3) w' => 0 < i ∧ i ≤ n ∧ Blk w' b 124 #[.slice (some ⟨gl, 0, none⟩) n n, .int .i64 (K : Nat), .slice (some ⟨q, 0, none⟩) n n, .slice A3 (stL n t i).length c3, .slice (some ⟨p, 0, none⟩) K K] ∧ w'.ownsRow z 21 1 (.slice A3 (stL n t i).length c3) (stL n t i).length ((stL n t i).map fun x : Nat => jV (x : Nat)) ∧ Blk w' q 4 (rT n t 0) ∧ Blk w' p 21 (tabJ K fun _ => 0) ∧ z ≤ w'.heap.size ∧ From w w') (fun (i, _, _) => n - i) ((1, none, 0)) ⟨rfl, trivial⟩ ?_ ?_
   · obtain rfl : j = 0 := by omega
     refine ⟨by omega, ht.pos, ?_, ?_, hR.from_ From.rfl_, hE.from_ From.rfl_, Nat.le_trans hzs (From.rfl_).size, hB⟩
     · rw [stL_one]; exact hT.from_ From.rfl_
     · rw [stL_one]; exact World.ownsRow_nil _ _ _ _
   rintro ⟨i, A3, c3⟩ ρ139 w139 ⟨hi0, hin, hT, ho, hR, hE, hzs, hB⟩
   refine cd_seq (cd_seq (cd_region ?_))
   refine mvi rfl ?_
   refine mvi rfl ?_
   refine st_val (ro_lss rfl rfl) ?_
   refine st_nil (nx_then ?_)
   refine cd_cond rfl (fun Q140 => ?_) (fun Q140 => ?_)
   · with_reducible replace Q140 := of_decide_eq_true Q140
     refine cd_skip (nx_then ?_)
     refine cd_cut (G := Option Addr × Nat) [79, 80, 81, 82, 83, 84, 85, 86, 87, 88, 89, 90, 91, 92, 93, 94, 95, 96, 97, 98, 99, 100, 101, 102, 103, 104, 105, 106, 107] (fun (_, _) => []) (fun (A3, c3) w' => Blk w' b 124 #[.slice (some ⟨gl, 0, none⟩) n n, .int .i64 (K : Nat), .slice (some ⟨q, 0, none⟩) n n, .slice A3 (stL n t (i + 1)).length c3, .slice (some ⟨p, 0, none⟩) K K] ∧ w'.ownsRow z 21 1 (.slice A3 (stL n t (i + 1)).length c3) (stL n t (i + 1)).length ((stL n t (i + 1)).map fun x : Nat => jV (x : Nat)) ∧ Blk w' q 4 (rT n t 0) ∧ Blk w' p 21 (tabJ K fun _ => 0) ∧ z ≤ w'.heap.size ∧ From w w') ?_ ?_
     · refine cd_block (cd_seq (cd_region ?_))
       refine mvp rfl ?_
       refine st_val (ro_nilCheck rfl) ?_
       refine st_val (ro_fieldAddr SufText_f124_2 rfl) ?_
       refine st_val (ro_load SufText_g107 rfl (by exact (hT.from_ From.rfl_).rd 2 rfl)) ?_
       refine mvi rfl ?_
       refine st_val (ro_indexAddr0 SufText_e107 rfl rfl (by omega)) ?_
       refine st_val (ro_load SufText_g4 rfl (by exact rT_rd (hR.from_ From.rfl_) (Nat.zero_le _) (by omega))) ?_
       refine mvb rfl ?_
       refine st_split (t := 86) rfl (fun Q141 => ?_) (fun Q141 => ?_)
       · (try with_reducible first | (replace Q141 := of_decide_eq_true Q141; trace "@MK N newText_rt:c33-.c76+.g86+ 1.1") | (replace Q141 := of_decide_eq_false Q141; trace "@MK N newText_rt:c33-.c76+.g86+ 1.2") | (replace Q141 := bn_t Q141; trace "@MK N newText_rt:c33-.c76+.g86+ 1.3") | (replace Q141 := bn_f Q141; trace "@MK N newText_rt:c33-.c76+.g86+ 1.4"))
         (try with_reducible first | (replace Q141 := of_decide_eq_true Q141; trace "@MK N newText_rt:c33-.c76+.g86+ 2.1") | (replace Q141 := of_decide_eq_false Q141; trace "@MK N newText_rt:c33-.c76+.g86+ 2.2") | (replace Q141 := bx_t Q141; trace "@MK N newText_rt:c33-.c76+.g86+ 2.3") | (replace Q141 := bx_f Q141; trace "@MK N newText_rt:c33-.c76+.g86+ 2.4") | (replace Q141 := be_t Q141; trace "@MK N newText_rt:c33-.c76+.g86+ 2.5") | (replace Q141 := be_f Q141; trace "@MK N newText_rt:c33-.c76+.g86+ 2.6"))
         have hq85 : rb n t i = true := Q141
         refine st_unguard rfl ?_
         refine mvp rfl ?_
         refine st_unguard rfl ?_
         refine st_val (ro_nilCheck rfl) ?_
         refine st_unguard rfl ?_
         refine st_val (ro_fieldAddr SufText_f124_2 rfl) ?_
         refine st_unguard rfl ?_
         refine st_val (ro_load SufText_g107 rfl (by exact (hT.from_ From.rfl_).rd 2 rfl)) ?_
         refine st_unguard rfl ?_
         refine mvi rfl ?_
         refine st_unguard rfl ?_
         refine st_val (ro_subN (b := 1) rfl rfl (by omega)) ?_
         refine st_unguard rfl ?_
         refine st_val (ro_indexAddr0 SufText_e107 rfl rfl (by omega)) ?_
         refine st_unguard rfl ?_
         refine st_val (ro_load SufText_g4 rfl (by exact rT_rd (hR.from_ From.rfl_) (Nat.zero_le _) (by omega))) ?_
         refine st_unguard rfl ?_
         refine st_val (ro_not rfl) ?_
         refine st_val (ro_pickT (v := .bool _) rfl rfl) ?_
         refine st_nil (nx_then ?_)
         refine cd_cond rfl (fun Q142 => ?_) (fun Q142 => ?_)
         · with_reducible replace Q142 := bn_t Q142
           have hq94 : rb n t (i - 1) = false := by simpa using Q142
           refine cd_region ?_
           refine mvp rfl ?_
           refine mvp rfl ?_
           refine st_val (ro_nilCheck rfl) ?_
           refine st_val (ro_fieldAddr SufText_f124_3 rfl) ?_
           refine st_val (ro_load SufText_g81 rfl (by exact (hT.from_ From.rfl_).rd 3 rfl)) ?_
           refine mvi rfl ?_
           refine st_val (ro_conv32 SufText_s3 SufText_i21 rfl (by omega)) ?_
           refine st_lit1 (v := .int _ _) SufText_q81 rfl rfl rfl ?_
           intro b104 w143 E104 hb104 hk104
           have hsl := stL_len (n := n) (t := t) (i := i)
           refine st_appendB (base := z) SufText_q81 rfl (by decide) rfl (A := A3) (xs := (stL n t i).map fun x : Nat => jV (x : Nat)) (news := [jV (i : Nat)]) (ho.kept_from E104) (Nat.le_trans hzs E104.size) rfl rfl (fun _ => ⟨b104, 0, rfl, hk104.whole⟩) (fun h => by cases h) (by simp [Value.oneCell']) (by omega) (by omega) ?_
           intro A105 c105 w144 ho105 hg105
           have HB105 : From w w144 := ((hB.next E104)).grew hg105 (fun k hk => Nat.le_trans hwz (own_at ho k hk).1)
           have hoq := ho.kept_from E104
           have hT105 := (hT.from_ E104).grown hg105 (own_off hoq (hT.from_ E104) (by decide))
           have hR105 := (hR.from_ E104).grown hg105 (own_off hoq (hR.from_ E104) (by decide))
           have hE105 := (hE.from_ E104).grown hg105 (fun k hk => by have := (own_at ho k hk).1; omega)
           have hzs105 := Nat.le_trans hzs (Nat.le_trans E104.size hg105.size)
           refine st_val (ro_nilCheck rfl) ?_
           refine st_val (ro_fieldAddr SufText_f124_3 rfl) ?_
           refine st_put (v := .slice _ _ _) SufText_z81 rfl rfl rfl (hT105) (by show 3 < 5; decide) ?_
           intro w145 O12 P12
           have hst := stL_yes (by omega) (by omega) hq85 hq94
           have hT12 := P12
           have ho12 := own_only3 ho105 O12 (own_off ho105 hT105 (by decide))
           have hR12 := hR105.only O12 (blk_ne hR105 hT105 (by decide))
           have hE12 := hE105.only O12 (blk_ne hE105 hT105 (by decide))
           have hzs12 : z ≤ (w145).heap.size := by rw [O12.size]; exact hzs105
           refine st_nil (nx_block ?_)
           refine nx_cut ((A105, c105)) trivial (by (iterate 30 refine agr_cons rfl ?_); exact agr_rfl) ?_
           exact ⟨by rw [hst, List.length_append]; exact hT12, by rw [hst, List.length_append, List.map_append]; exact ho12, hR12, hE12, hzs12, (HB105.only O12 gb)⟩
         with_reducible replace Q142 := bn_f Q142
         refine cd_skip (nx_block ?_)
         refine nx_cut ((A3, c3)) trivial (by (iterate 19 refine agr_cons rfl ?_); exact agr_rfl) ?_
         have hst : stL n t (i + 1) = stL n t i := stL_no (by simp_all)
         exact ⟨by rw [hst]; exact hT.from_ From.rfl_, by rw [hst]; exact ho.kept_from From.rfl_, hR.from_ From.rfl_, hE.from_ From.rfl_, Nat.le_trans hzs (From.rfl_).size, hB⟩
       (try with_reducible first | (replace Q141 := of_decide_eq_true Q141; trace "@MK N newText_rt:c33-.c76+.g86- 1.1") | (replace Q141 := of_decide_eq_false Q141; trace "@MK N newText_rt:c33-.c76+.g86- 1.2") | (replace Q141 := bn_t Q141; trace "@MK N newText_rt:c33-.c76+.g86- 1.3") | (replace Q141 := bn_f Q141; trace "@MK N newText_rt:c33-.c76+.g86- 1.4"))
       (try with_reducible first | (replace Q141 := of_decide_eq_true Q141; trace "@MK N newText_rt:c33-.c76+.g86- 2.1") | (replace Q141 := of_decide_eq_false Q141; trace "@MK N newText_rt:c33-.c76+.g86- 2.2") | (replace Q141 := bx_t Q141; trace "@MK N newText_rt:c33-.c76+.g86- 2.3") | (replace Q141 := bx_f Q141; trace "@MK N newText_rt:c33-.c76+.g86- 2.4") | (replace Q141 := be_t Q141; trace "@MK N newText_rt:c33-.c76+.g86- 2.5") | (replace Q141 := be_f Q141; trace "@MK N newText_rt:c33-.c76+.g86- 2.6"))
       refine st_gno rfl rfl ?_
       refine st_gno rfl rfl ?_
       refine st_gno rfl rfl ?_
       refine st_gno rfl rfl ?_
       refine st_gno rfl rfl ?_
       refine st_gno rfl rfl ?_
       refine st_gno rfl rfl ?_
       refine st_gno rfl rfl ?_
       refine st_gno rfl rfl ?_
       refine st_val (ro_pickF (v := .bool _) rfl rfl) ?_
       refine st_nil (nx_then ?_)
       refine cd_condF rfl ?_
       refine cd_skip (nx_block ?_)
       refine nx_cut ((A3, c3)) trivial (by (iterate 19 refine agr_cons rfl ?_); exact agr_rfl) ?_
       have hst : stL n t (i + 1) = stL n t i := stL_no (by simp_all)
       exact ⟨by rw [hst]; exact hT.from_ From.rfl_, by rw [hst]; exact ho.kept_from From.rfl_, hR.from_ From.rfl_, hE.from_ From.rfl_, Nat.le_trans hzs (From.rfl_).size, hB⟩
     rintro ⟨A4, c4⟩ ρ146 w146 ⟨hT2, ho2, hR2, hE2, hzs2, hB⟩
     refine cd_region ?_
     refine mvi rfl ?_
     refine st_val (ro_addN (b := 1) rfl rfl (by omega)) ?_
     refine asi rfl ?_
     refine st_nil ?_
     refine nx_cut ((i + 1, A4, c4)) ⟨(by first | rfl | (refine int_eq ?_; omega)), trivial⟩ (by (iterate 70 refine agr_cons rfl ?_); exact agr_rfl) ⟨?_, ?_⟩
     · exact ⟨by omega, by omega, hT2.from_ From.rfl_, ho2.kept_from From.rfl_, hR2.from_ From.rfl_, hE2.from_ From.rfl_, Nat.le_trans hzs2 (From.rfl_).size, hB⟩
     · show n - (i + 1) < n - i; omega
   with_reducible replace Q140 := of_decide_eq_false Q140
   refine cd_exit ?_
   refine ex_then (ex_then (ex_block (nx_then (cd_seq (cd_seq (cd_region ?_))))))
   refine mvs rfl ?_
   refine st_val (ro_len SufText_l81 rfl) ?_
   refine mvi rfl ?_
   refine st_nil (nx_then (cd_block ?_))
   refine cd_loop (G := Nat) [10, 111, 112, 113, 114, 115, 116, 117, 118, 119, 120, 121, 122, 123] (fun k => [(110, .int .i64 (k : Nat))]) (fun k w' => k ≤ n ∧ Blk w' b 124 #[.slice (some ⟨gl, 0, none⟩) n n, .int .i64 (K : Nat), .slice (some ⟨q, 0, none⟩) n n, .slice A3 (stL n t n).length c3, .slice (some ⟨p, 0, none⟩) K K] ∧ w'.ownsRow z 21 1 (.slice A3 (stL n t n).length c3) (stL n t n).length ((stL n t n).map fun x : Nat => jV (x : Nat)) ∧ Blk w' q 4 (rT n t 0) ∧ Blk w' p 21 (cT n K t k) ∧ From w w') (fun k => n - k) (0) ⟨rfl, trivial⟩ ?_ ?_
   · obtain rfl : i = n := by omega
     exact ⟨Nat.zero_le _, hT.from_ From.rfl_, ho.kept_from From.rfl_, hR.from_ From.rfl_, hE.from_ From.rfl_, hB⟩
   rintro k ρ147 w147 ⟨hkn, hT, ho, hR, hE, hB⟩
   refine cd_seq (cd_region ?_)
   refine st_val (ro_lss rfl rfl) ?_
   refine st_nil (nx_then (cd_seq ?_))
   refine cd_cond rfl (fun Q148 => ?_) (fun Q148 => ?_)
   · with_reducible replace Q148 := of_decide_eq_true Q148
     refine cd_skip (nx_then (cd_seq (cd_block (cd_seq (cd_region ?_)))))
     refine st_val (ro_indexAddr0 SufText_e81 rfl rfl (by omega)) ?_
     refine st_val (ro_load SufText_g21 rfl (by exact (hl.from_ hB).rdN (by omega))) ?_
     refine asi rfl ?_
     refine st_nil (nx_then (cd_region ?_))
     refine mvp rfl ?_
     refine st_val (ro_nilCheck rfl) ?_
     refine st_val (ro_fieldAddr SufText_f124_4 rfl) ?_
     refine st_val (ro_load SufText_g81 rfl (by exact (hT.from_ From.rfl_).rd 4 rfl)) ?_
     refine mvi rfl ?_
     refine st_val (ro_indexAddr0 SufText_e81 rfl rfl (by exact hkt _ (by omega))) ?_
     refine st_val (ro_load SufText_g21 rfl (by exact cT_rd (hE.from_ From.rfl_) (hkt _ (by omega)))) ?_
     refine st_val (ro_add32 (r := ((cnt k (fun i => t i = t k) + 1 : Nat) : Int)) rfl rfl (by omega) (by have := cnt_le_n k (fun i => t i = t k); omega)) ?_
     refine st_val (ro_indexAddr0 SufText_e81 rfl rfl (by exact hkt _ (by omega))) ?_
     refine st_put (v := .int _ _) SufText_z21 rfl rfl rfl (hE) (by unfold cT; rw [tabJ_size]; exact hkt _ (by omega)) ?_
     intro w149 O16 P16
     have hT16 := hT.only O16 (blk_ne hT hE (by decide))
     have ho16 := own_only3 ho O16 (fun k hk => by have := (own_at ho k hk).1; omega)
     have hR16 := hR.only O16 (blk_ne hR hE (by decide))
     have hE16 := cT_put P16
     refine st_nil (nx_block (nx_then (cd_region ?_)))
     refine st_val (ro_addN (b := 1) rfl rfl (by omega)) ?_
     refine mvi rfl ?_
     refine st_nil ?_
     refine nx_cut (k + 1) ⟨(by first | rfl | (refine int_eq ?_; omega)), trivial⟩ (by (iterate 30 refine agr_cons rfl ?_); exact agr_rfl) ⟨?_, ?_⟩
     · exact ⟨by omega, hT16.from_ From.rfl_, ho16.kept_from From.rfl_, hR16.from_ From.rfl_, hE16.from_ From.rfl_, (hB.only O16 (gp))⟩
     · show n - (k + 1) < n - k; omega
   with_reducible replace Q148 := of_decide_eq_false Q148
   refine cd_exit ?_
   refine ex_then (ex_then (ex_block (nx_then (cd_seq (cd_seq (cd_region ?_))))))
   refine asi rfl ?_
   refine st_nil (nx_then (cd_block ?_))
   refine cd_loop (G := Nat) [124, 125, 126, 127, 128, 129, 130, 131, 132, 133, 134, 135, 136, 137, 138, 139, 140, 141, 142, 143, 144, 145] (fun c => [(11, .int .i64 (c : Nat))]) (fun c w' => 1 ≤ c ∧ Blk w' b 124 #[.slice (some ⟨gl, 0, none⟩) n n, .int .i64 (K : Nat), .slice (some ⟨q, 0, none⟩) n n, .slice A3 (stL n t n).length c3, .slice (some ⟨p, 0, none⟩) K K] ∧ w'.ownsRow z 21 1 (.slice A3 (stL n t n).length c3) (stL n t n).length ((stL n t n).map fun x : Nat => jV (x : Nat)) ∧ Blk w' q 4 (rT n t 0) ∧ Blk w' p 21 (eT n K t c) ∧ From w w') (fun c => K - c) (1) ⟨rfl, trivial⟩ ?_ ?_
   · obtain rfl : k = n := by omega
     exact ⟨Nat.le_refl _, hT.from_ From.rfl_, ho.kept_from From.rfl_, hR.from_ From.rfl_, by rw [← eT_one]; exact hE.from_ From.rfl_, hB⟩
   rintro c ρ150 w150 ⟨hc, hT, ho, hR, hE, hB⟩
   refine cd_seq (cd_seq (cd_region ?_))
   refine mvi rfl ?_
   refine mvi rfl ?_
   refine st_val (ro_lss rfl rfl) ?_
   refine st_nil (nx_then ?_)
   refine cd_cond rfl (fun Q151 => ?_) (fun Q151 => ?_)
   · with_reducible replace Q151 := of_decide_eq_true Q151
     refine cd_skip (nx_then (cd_seq (cd_block ?_)))
     apply cd_drawn 17 [(129, eqp _), (130, eqp _), (131, eqp _), (132, eqp _), (133, eqp _), (134, eqp _), (135, eqp _), (136, eqp _), (137, eqp _), (138, eqp _), (139, eqp _), (140, eqp _), (141, eqp _), (142, eqp _), (143, eqp _), (144, eqp _), (145, eqp _)] (by kernel_rfl) (by kernel_rfl) ⟨eqp_mono _, eqp_mono _, eqp_mono _, eqp_mono _, eqp_mono _, eqp_mono _, eqp_mono _, eqp_mono _, eqp_mono _, eqp_mono _, eqp_mono _, eqp_mono _, eqp_mono _, eqp_mono _, eqp_mono _, eqp_mono _, eqp_mono _, trivial⟩
     case hop =>
      refine ⟨?_, ?_⟩
      · intro w153 D153
        show OpOK _ _ _ _ _ _ _
        exact ok_pure (ro_move (v := .pointer _) rfl) rfl
      refine ⟨?_, ?_⟩
      · intro w154 D154
        rintro _ rfl
        show OpOK _ _ _ _ _ _ _
        exact ok_pure (ro_nilCheck rfl) rfl
      refine ⟨?_, ?_⟩
      · intro w155 D155
        rintro _ rfl
        show OpOK _ _ _ _ _ _ _
        exact ok_pure (ro_fieldAddr SufText_f124_4 rfl) rfl
      refine ⟨?_, ?_⟩
      · intro w156 D156
        rintro _ rfl
        show OpOK _ _ _ _ _ _ _
        exact ok_pure (ro_load SufText_g81 rfl (by exact (hT.from_ (From.rfl_.next D156)).rd 4 rfl)) rfl
      refine ⟨?_, ?_⟩
      · intro w157 D157
        show OpOK _ _ _ _ _ _ _
        exact ok_pure (ro_move (v := .int _ _) rfl) rfl
      refine ⟨?_, ?_⟩
      · intro w158 D158
        rintro _ rfl _ rfl
        show OpOK _ _ _ _ _ _ _
        exact ok_pure (ro_indexAddr0 SufText_e81 rfl rfl (by omega)) rfl
      refine ⟨?_, ?_⟩
      · intro w159 D159
        rintro _ rfl
        show OpOK _ _ _ _ _ _ _
        exact ok_pure (ro_load SufText_g21 rfl (by exact eT_hi (hE.from_ (From.rfl_.next D159)) (by omega) (by omega))) rfl
      refine ⟨?_, ?_⟩
      · intro w160 D160
        show OpOK _ _ _ _ _ _ _
        exact ok_pure (ro_move (v := .pointer _) rfl) rfl
      refine ⟨?_, ?_⟩
      · intro w161 D161
        rintro _ rfl
        show OpOK _ _ _ _ _ _ _
        exact ok_pure (ro_nilCheck rfl) rfl
      refine ⟨?_, ?_⟩
      · intro w162 D162
        rintro _ rfl
        show OpOK _ _ _ _ _ _ _
        exact ok_pure (ro_fieldAddr SufText_f124_4 rfl) rfl
      refine ⟨?_, ?_⟩
      · intro w163 D163
        rintro _ rfl
        show OpOK _ _ _ _ _ _ _
        exact ok_pure (ro_load SufText_g81 rfl (by exact (hT.from_ (From.rfl_.next D163)).rd 4 rfl)) rfl
      refine ⟨?_, ?_⟩
      · intro w164 D164
        show OpOK _ _ _ _ _ _ _
        exact ok_pure (ro_move (v := .int _ _) rfl) rfl
      refine ⟨?_, ?_⟩
      · intro w165 D165
        rintro _ rfl
        show OpOK _ _ _ _ _ _ _
        exact ok_pure (ro_subN (b := 1) rfl rfl (by omega)) rfl
      refine ⟨?_, ?_⟩
      · intro w166 D166
        rintro _ rfl _ rfl
        show OpOK _ _ _ _ _ _ _
        exact ok_pure (ro_indexAddr0 SufText_e81 rfl rfl (by omega)) rfl
      refine ⟨?_, ?_⟩
      · intro w167 D167
        rintro _ rfl
        show OpOK _ _ _ _ _ _ _
        exact ok_pure (ro_load SufText_g21 rfl (by exact eT_lo (hE.from_ (From.rfl_.next D167)) (by omega) (by omega))) rfl
      refine ⟨?_, ?_⟩
      · intro w168 D168
        rintro _ rfl _ rfl
        show OpOK _ _ _ _ _ _ _
        exact ok_pure (ro_add32 (r := ((less n t (c + 1) : Nat) : Int)) rfl rfl (by have := less_succ (n := n) (t := t) c; omega) (by have := less_le (n := n) (t := t) (c := c + 1); omega)) rfl
      refine ⟨?_, ?_⟩
      · intro w169 D169
        rintro _ rfl _ rfl
        show OpOK _ _ _ _ _ _ _
        exact ok_pure (ro_indexAddr0 SufText_e81 rfl rfl (by omega)) rfl
      exact trivial
     case hend =>
      intro w170 D170
      rintro _ rfl _ rfl _ rfl _ rfl _ rfl _ rfl _ rfl _ rfl _ rfl _ rfl _ rfl _ rfl _ rfl _ rfl _ rfl _ rfl _ rfl
      show St _ _ _ _ _ _ _
      have hT21q := hT.from_ D170
      have ho21q := ho.kept_from D170
      have hR21q := hR.from_ D170
      have hE21q := hE.from_ D170
      refine st_put (v := .int _ _) SufText_z21 rfl rfl rfl (hE21q) (by unfold eT; rw [tabJ_size]; omega) ?_
      intro w171 O21 P21
      have hT21 := hT21q.only O21 (blk_ne hT21q hE21q (by decide))
      have ho21 := own_only3 ho21q O21 (fun k hk => by have := (own_at ho21q k hk).1; omega)
      have hR21 := hR21q.only O21 (blk_ne hR21q hE21q (by decide))
      have hE21 := eT_put P21
      refine st_nil (nx_block (nx_then (cd_region ?_)))
      refine mvi rfl ?_
      refine st_val (ro_addN (b := 1) rfl rfl (by omega)) ?_
      refine asi rfl ?_
      refine st_nil ?_
      refine nx_cut (c + 1) ⟨(by first | rfl | (refine int_eq ?_; omega)), trivial⟩ (by (iterate 46 refine agr_cons rfl ?_); exact agr_rfl) ⟨?_, ?_⟩
      · exact ⟨by omega, hT21.from_ From.rfl_, ho21.kept_from From.rfl_, hR21.from_ From.rfl_, hE21.from_ From.rfl_, ((hB.next D170).only O21 (gp))⟩
      · show K - (c + 1) < K - c; omega
   with_reducible replace Q151 := of_decide_eq_false Q151
   refine cd_exit ?_
   refine ex_then (ex_then (ex_block (nx_then (cd_seq (cd_region ?_)))))
   refine mvp rfl ?_
   refine asp rfl ?_
   refine st_nil (nx_then (cd_ret ?_))
   refine res1 (v := .pointer _) rfl rfl ?_
   rw [rT_zero] at hR
   rw [eT_all (by omega)] at hE
   exact ⟨⟨b, (stL n t n).length, stF n t, rfl, ⟨gl, q, A3, c3, p, hT.from_ From.rfl_, hl.from_ hB, hR.from_ From.rfl_, (fun h0 => (let ⟨g, e⟩ := own_some ho h0; ⟨g, e, by rw [e] at ho; exact (VJ.own (f := fun k => ((stF n t k : Nat) : Int)) (by rw [stF_row, List.map_map]; exact ho.kept_from From.rfl_) h0).1⟩)), (VJ.of_blk hE).from_ From.rfl_⟩, stF_starts n t⟩, hB⟩
end Go.Proofs.YtglndihdhaaccaaDoor

namespace Go.Proofs.YtglndihdhaaccaaDoor
open Go.RowKit Go.Shelf

theorem rows_wide {n : Nat} {P : Program} {row : String} {args : Array Value} {w : World} {R : Value → World → Prop} (h : Rows P row args w R) : RowsIn Fence.wide n P row args w R := fun c cs _ =>
  let ⟨v, w', r, s⟩ := h c cs
  ⟨v, w', r, stepsIn_wide.2 s⟩
structure CdR (l : Nat) (P : Program) (c : Code) (Q : Exit → Act → World → Prop) (n : Fr) (L : List (Nat × Value)) (w : World) : Prop where
  out : c.wpIn (Fence.wide.inRound l) 0 P Q (mkA n L) w
def noDef (ops : List Oper) : Bool := ops.all fun o => match o.op with | .defer _ => false | _ => true
theorem noDef_at {ops : List Oper} {o : Oper} (h : noDef ops = true) (ho : o ∈ ops) : ∀ c, o.op ≠ .defer c := fun c e => by
  have := List.all_eq_true.1 h o ho
  rw [e] at this
  cases this
section
variable {l : Nat} {P : Program} {ops : Array Oper} {Q : Exit → Act → World → Prop}
theorem op_in {o : Oper} {a : Act} {w : World} {K : Act → World → Prop} (hd : ∀ c, o.op ≠ .defer c) (hQ : ¬ LetsOut Q) (h : o.wp P a w K Q ∨ (o.asks P a w ∧ LetsOut Q)) : o.wpIn (Fence.wide.inRound l) 0 P a w K Q := by
  refine ⟨fun _ _ => trivial, ?_⟩
  rcases h with h | ⟨_, h⟩
  · unfold Oper.wp at h
    rw [Fence.inRound_round, Oper.semAt_some _ _ _ hd]
    generalize (execOp a.eval o).run P w = r at h ⊢
    cases r with
    | ok x w' =>
      cases x <;> first
        | exact h
        | exact ⟨fun h => absurd (show false = true from h) (by decide), (show CallsIn Fence.wide (0 - 1) P _ _ _ _ from callsIn_wide.2 h)⟩
        | exact ⟨fun h => absurd (show false = true from h) (by decide), (show RowsIn Fence.wide (0 - 1) P _ _ _ _ from rows_wide h)⟩
        | exact h.elim
    | halt o w' => cases o <;> exact h
  · exact absurd h hQ
theorem any_in (hd : noDef ops.toList = true) (hQ : ¬ LetsOut Q) : ∀ (fuel : Nat) (listed : Array Bool) (a : Act) (w : World), wpAny P .any ops Q fuel listed a w → wpAnyIn (Fence.wide.inRound l) 0 P .any ops Q fuel listed a w
  | 0, _, _, _, h => h
  | fuel + 1, listed, a, w, h => ⟨h.1, fun i hi => by
    have h2 := h.2 i hi
    unfold wpOp at h2
    unfold wpOpIn
    cases ho : ops[i]? with
    | none => rw [ho] at h2; exact any_in hd hQ fuel _ _ _ h2
    | some o =>
      rw [ho] at h2
      simp only at h2 ⊢
      have hm : o ∈ ops.toList := Array.mem_toList_iff.2 (Array.mem_of_getElem? ho)
      split at h2
      · rename_i hw
        rw [if_pos hw]
        exact op_in (noDef_at hd hm) hQ (h2.imp (Oper.wp_mono fun a w => any_in hd hQ fuel _ a w) id)
      · rename_i hw
        rw [if_neg hw]
        exact ⟨fun _ _ => trivial, any_in hd hQ fuel _ _ _ h2⟩⟩
theorem list_in (hQ : ¬ LetsOut Q) : ∀ {r : List Oper} {a : Act} {w : World}, noDef r = true → wpList P ops Q r a w → wpListIn (Fence.wide.inRound l) 0 P ops Q r a w
  | [], _, _, _, h => h
  | o :: r, a, w, hd, h => by
    have hd2 : noDef r = true := by
      unfold noDef at hd ⊢
      rw [List.all_cons, Bool.and_eq_true] at hd
      exact hd.2
    unfold wpList at h
    unfold wpListIn
    split at h
    · rename_i hw
      rw [if_pos hw]
      exact op_in (noDef_at hd (List.mem_cons_self ..)) hQ (h.imp (Oper.wp_mono fun a w h => list_in hQ hd2 h) id)
    · rename_i hw
      rw [if_neg hw]
      exact ⟨fun _ _ => trivial, list_in hQ hd2 h⟩
variable {n : Fr} {L : List (Nat × Value)} {w : World}
theorem cr_seq {x y : Code} (h : CdR l P x (Exit.then (fun a w => y.wpIn (Fence.wide.inRound l) 0 P Q a w) Q) n L w) : CdR l P (.seq x y) Q n L w := ⟨wpIn_seq h.out⟩
theorem cr_block {id : Nat} {c : Code} (h : CdR l P c (Exit.inBlock id Q) n L w) : CdR l P (.block id c) Q n L w := ⟨wpIn_block h.out⟩
theorem nr_then {y : Code} (h : CdR l P y Q n L w) : Exit.then (fun a w => y.wpIn (Fence.wide.inRound l) 0 P Q a w) Q .normal (mkA n L) w := h.out
theorem cr_region {id : Nat} {r : List Oper} (hd : noDef r = true) (hQ : ¬ LetsOut Q) (h : St P r.toArray Q r n L w) : CdR l P (.region id r.toArray false) Q n L w := ⟨wpIn_region_lit (list_in hQ hd h.out)⟩
theorem cr_drawn {id : Nat} {r : List Oper} (K : Nat) (RL : List (Nat × (Value → World → Prop))) (hm : P.follows .mixedOrders = true) (hc : monoB r K = true) (hmono : MonoR RL) (hd : noDef r = true) (hQ : ¬ LetsOut Q)
    (hop : OpsOK P r.toArray n L w (lookR RL) (preOf r K) (r.take K)) (hend : ∀ w', From w w' → AllF (lookR RL) w' (preOf r K) fun M => St P r.toArray Q (r.drop K) n (M ++ L) w') : CdR l P (.region id r.toArray true) Q n L w := by
  have hKl : K ≤ r.length := of_decide_eq_true (Bool.and_eq_true_iff.1 hc).1
  have := mono_seq (Q := Q) (w := w) hc (lookR_mono hmono) hop hend r.length (Array.replicate r.length false) L { w with drawn := w.drawn + 1 } (by simp) (by simp)
    (fun j _ hj => by simp [Array.getD, hj]) (From.rfl_.d1) (fun _ _ => rfl) (fun i o d hi _ hl => by
      have : i < r.length := by omega
      simp [Array.getD, this] at hl)
  exact ⟨wpIn_region_any hm (any_in (by simpa using hd) hQ _ _ _ _ (by simpa using this))⟩
end
/-- how a round is left -/
def RPost (I : World → Prop) : Exit → Act → World → Prop
  | .normal, _, W => I W
  | _, _, _ => False
/-- whatever is no cells lies as it lay -/
def Keeps (W W' : World) : Prop := ∀ (q : Nat) (o : Obj), W.heap[q]? = some o → o.isCells = false → W'.heap[q]? = some o
theorem Keeps.trans {W W1 W2 : World} (h : Keeps W W1) (k : Keeps W1 W2) : Keeps W W2 := fun q o hq ho => k q o (h q o hq ho) ho
theorem Keeps.from_ {W W' : World} (h : From W W') : Keeps W W' := fun q o hq _ => by
  rw [h.block q (Array.getElem?_eq_some_iff.1 hq).1]
  exact hq
theorem Keeps.only {W W' : World} {g t : Nat} {cs : Array Value} (h : Only g W W') (hb : Blk W g t cs) : Keeps W W' := fun q o hq ho => by
  rw [h.block q (fun e => by
    subst e
    unfold Blk at hb
    rw [hb] at hq
    cases hq
    cases ho)]
  exact hq
theorem only_putObj {W : World} {q : Nat} {o : Obj} : Only q W (W.putObj q o) := ⟨rfl, rfl, rfl, by simp, fun k hk => World.putObj_heap_other (fun e => hk (by rw [e]))⟩
theorem blk_aside {W : World} {g t q : Nat} {cs : Array Value} {o : Obj} (hb : Blk W g t cs) (hq : W.heap[q]? = some o) (ho : o.isCells = false) : g ≠ q := fun e => by
  subst e
  unfold Blk at hb
  rw [hb] at hq
  cases hq
  cases ho
/-- an iterator that yields N pairs -/
structure IterOK (P : Program) (gf : Nat) (lb : Array Value) (u v : Nat → Value) (N : Nat) (Rd : World → Prop) : Prop where
  out : ∀ (l : Nat) (J : Nat → World → Prop) (W : World), (∀ k W', J k W' → Rd W') → (∀ k W1, k < N → J k W1 → YieldAt Fence.wide 0 P l #[u k, v k] W1 fun e W' => e = .returned (.bool true) ∧ J (k + 1) W') → J 0 W →
    CallsIn Fence.wide 1 P gf (#[.func (.yield l) #[] #[]] ++ lb) W fun e W' => (∃ v, e = .returned v) ∧ J N W'
theorem cd_range2 {P : Program} {Q : Exit → Act → World → Prop} {n : Fr} {L : List (Nat × Value)} {w : World} {g : Operand} {p1 p2 : Nat} {assign body : Code} {gf : Nat} {lb : Array Value} {u v : Nat → Value} {N : Nat} {Rd : World → Prop}
    (hg : ev n L g = .func (.func gf) #[] lb) (he : ∀ args w, (callFunc gf args).run P w = .ok (.enter gf args) w) (hit : IterOK P gf lb u v N Rd) (I : Nat → World → Prop) (LB : Nat → List (Nat × Value)) (hRd : ∀ k W, I k W → Rd W)
    (hF : ∀ k W W', I k W → From W W' → I k W') (hO : ∀ k W W' q o, W.heap[q]? = some o → o.isCells = false → Only q W W' → w.heap.size ≤ q → I k W → I k W') (h0 : I 0 w)
    (ha : ∀ (l k : Nat) (W : World) (K : Act → World → Prop), K (mkA ⟨n.n, []⟩ (LB k)) W → CdR l P assign (Exit.then K fun _ _ _ => False) ⟨n.n, []⟩ ((p2, v k) :: (p1, u k) :: L) W)
    (hb : ∀ (l k : Nat) (W : World), k < N → I k W → CdR l P body (RPost fun W' => I (k + 1) W' ∧ Keeps W W') ⟨n.n, []⟩ (LB k) W)
    (hd : ∀ (D : Nat) (W : World), w.heap.size ≤ D → I N W → W.heap[D]? = some (.deferred (some [])) → Q .normal (mkA ⟨n.n, { target := .collected D, args := #[] } :: n.ds⟩ L) W) :
    Cd P (.rangeFunc g #[p1, p2] assign body) Q n L w := by
  refine ⟨(wpIn_wide (n := 2)).1 (wpIn_rangeFunc fun fn _ => ?_)⟩
  obtain ⟨rec, hrec⟩ : ∃ rec : LoopState → Option Code → Loop, rec = fun st pe => { state := st, pending := pe, fn, tmps := mkT n.n L, params := #[p1, p2], assign, body, defers := w.heap.size } := ⟨_, rfl⟩
  obtain ⟨D, hD⟩ : ∃ D, D = w.heap.size := ⟨_, rfl⟩
  obtain ⟨W1, hW1⟩ : ∃ W1, (w.alloc (.deferred (some []))).alloc (.loop (rec .ready none)) = W1 := ⟨_, rfl⟩
  have hL1 : W1.heap[D + 1]? = some (.loop (rec .ready none)) := by
    rw [← hW1, hD]
    have := World.alloc_heap_new (w.alloc (.deferred (some []))) (.loop (rec .ready none))
    rwa [World.size_alloc] at this
  have hK1 : W1.heap[D]? = some (.deferred (some [])) := by
    rw [← hW1, hD]
    exact (Below.heap_alloc _ _ _ (by simp)).trans (World.alloc_heap_new w _)
  have hI1 : I 0 W1 := hF 0 w W1 h0 (by rw [← hW1]; exact (From.rfl_.new _).next (From.rfl_.new _))
  refine ⟨D + 1, [{ target := .collected D, args := #[] }], W1, { target := .fn (.func gf) lb, args := #[.func (.yield (D + 1)) #[] #[]] }, W1, gf, #[.func (.yield (D + 1)) #[] #[]] ++ lb, W1, ?_, ?_, fun _ _ => trivial, ?_, (fun h => by cases h), ?_⟩
  · rw [← hW1, hrec, hD]
    exact run_enterLoop_outer _ _ _ _ _
  · simp only [resolve, eval_mkA, hg]
    simp [go_sem, ev]
  · simp [invoke, go_sem, he]
  · refine (hit.out (D + 1) (fun k W => I k W ∧ W.heap[D + 1]? = some (.loop (rec .ready none)) ∧ W.heap[D]? = some (.deferred (some []))) W1 (fun k W' h => hRd k W' h.1) ?_ ⟨hI1, hL1, hK1⟩).mono ?_
    · rintro k W hk ⟨hi, hl, hdf⟩
      have hlt : D + 1 < W.heap.size := (Array.getElem?_eq_some_iff.1 hl).1
      have hy := run_yield (P := P) (args := #[u k, v k]) hl (by rw [hrec]; rfl)
      rw [hrec] at hy
      refine ⟨fn, _, assign, body, hy, roundIn_of_wpIn trivial ?_⟩
      obtain ⟨W2, hW2⟩ : ∃ W2, W.putObj (D + 1) (.loop { rec .ready none with state := .busy }) = W2 := ⟨_, rfl⟩
      have hO2 : Only (D + 1) W W2 := by rw [← hW2]; exact only_putObj
      have hl2 : W2.heap[D + 1]? = some (.loop { rec .ready none with state := .busy }) := by rw [← hW2]; exact World.putObj_heap_same hlt
      have hd2 : W2.heap[D]? = some (.deferred (some [])) := by rw [hO2.block D (by omega)]; exact hdf
      have hi2 : I k W2 := hO k W W2 (D + 1) _ hl rfl hO2 (by omega) hi
      have key := (ha (D + 1) k W (fun a₁ w₁ => ∃ w₂, (Instr.beginRound (D + 1)).run P w₁ = .ok () w₂ ∧ body.wpIn (Fence.wide.inRound (D + 1)) 0 P (roundPost P (D + 1) fun e W' => e = .returned (.bool true) ∧ I (k + 1) W' ∧ W'.heap[D + 1]? = some (.loop (rec .ready none)) ∧ W'.heap[D]? = some (.deferred (some []))) a₁ w₂) ⟨W2, ?_, ?_⟩).out
      · have e : ({ tmps := (Array.foldl (fun tmps (x : Tmp × Value) => tmps.setIfInBounds x.1 x.2) (mkT n.n L) (#[p1, p2].zip #[u k, v k])), defers := [] } : Act) = mkA ⟨n.n, []⟩ ((p2, v k) :: (p1, u k) :: L) := by
          have e1 := put_mkA ⟨n.n, []⟩ L p1 (u k)
          have e2 := put_mkA ⟨n.n, []⟩ ((p1, u k) :: L) p2 (v k)
          rw [← e2, ← e1]
          simp [mkA, Act.put]
        rw [← e] at key
        exact key
      · rw [← hW2]
        exact run_beginRound hl (by rw [hrec])
      · refine wpIn_mono (hb (D + 1) k W2 hk hi2).out fun e a3 W3 hp => ?_
        cases e <;> first | exact hp.elim | skip
        obtain ⟨hi3, hk3⟩ := hp
        have hl3 := hk3 _ _ hl2 rfl
        have hd3 := hk3 _ _ hd2 rfl
        have hlt3 := (Array.getElem?_eq_some_iff.1 hl3).1
        have hr := run_endRound (P := P) none hl3
        refine ⟨_, _, hr, rfl, hO _ W3 _ (D + 1) _ hl3 rfl only_putObj (by omega) hi3, ?_, ?_⟩
        · rw [World.putObj_heap_same hlt3, hrec]
          rfl
        · rw [World.putObj_heap_other (by omega)]
          exact hd3
    · rintro e W2 ⟨⟨x, rfl⟩, hi, hl, hdf⟩
      refine ⟨none, _, by have := run_endLoop (P := P) hl (by rw [hrec]; simp); rw [hrec] at this; exact this, ?_⟩
      exact hd D _ (by omega) (hO _ W2 _ (D + 1) _ hl rfl only_putObj (by omega) hi) ((World.putObj_heap_other (by omega)).trans hdf)
/-! ### functions with such a loop -/
/-- how such a body is left: never by a panic -/
def bodyM (P : Program) (fn : Func) (R : Ending → World → Prop) : Exit → Act → World → Prop
  | .normal, a, w | .ret, a, w => LeavesInM Fence.wide 2 P fn a.tmps R a.defers .returning w
  | _, _, _ => False
theorem pq_bodyM {P : Program} {fn : Func} {R : Ending → World → Prop} : PQ (bodyM P fn R) := ⟨fun _ _ _ _ _ h => h⟩
theorem enterM {P : Program} {f : FuncId} {fn : Func} {c : Code} {l : List Value} {w : World} {R : Value → World → Prop} {n : Nat} (hf : P.funcs[f]? = some fn) (hb : fn.body = some c) (hn : fn.ntmps = n) (hl : Nat.ble l.length n = true)
    (h : Cd P c (bodyM P fn fun e w' => ∃ v, e = .returned v ∧ R v w') ⟨n, []⟩ (argsL 0 l) w) : Rt P f l w R := by
  refine (callsIn_wide (n := 2)).1 (callsIn_of_wp_marks hf hb trivial ?_)
  refine wpIn_wide.2 ?_
  rw [hn, args_mkT n l (Nat.le_of_ble_eq_true hl)]
  exact wp_mono h.out fun e a w q => by
    cases e <;> first | exact q | exact q.elim
theorem resM {P : Program} {fn : Func} {m D : Nat} {L : List (Nat × Value)} {w : World} {t : Nat} {R : Value → World → Prop} {v : Value} (hr : fn.results = #[.tmp t]) (hv : ev ⟨m, [{ target := .collected D, args := #[] }]⟩ L (.tmp t) = v) (hD : w.heap[D]? = some (.deferred (some []))) (h : ∀ w', Only D w w' → R v w') :
    bodyM P fn (fun e w' => ∃ v, e = .returned v ∧ R v w') .ret (mkA ⟨m, [{ target := .collected D, args := #[] }]⟩ L) w := by
  refine ⟨by simp, .inl ⟨D, _, rfl, run_takeDeferred hD, ?_⟩⟩
  refine ⟨_, results_tmp hr _ _ _, v, ?_, h _ only_putObj⟩
  rw [← hv]
  exact congrArg Ending.returned (getD_mkT m L t)
end Go.Proofs.YtglndihdhaaccaaDoor

namespace Go.Proofs.YtglndihdhaaccaaDoor
open Go.RowKit Go.Shelf
attribute [local go_sem] Oper.semAt_some

def BackRd (Bs b o m c : Nat) (f : Nat → Int) (W : World) : Prop := W.cell? ⟨Bs, 0, none⟩ = some (.slice (some ⟨b, o, none⟩) m c) ∧ ∀ j, j < m → W.cell? ⟨b, o + j, none⟩ = some (.int .i32 (f j))
set_option maxHeartbeats 4000000 in
theorem back_iter (Bs b o m c : Nat) (f : Nat → Int) (hm : m ≤ 1000000) :
    IterOK Tryd.prog 56 #[.pointer (some ⟨Bs, 0, none⟩)] (fun k => .int .i64 ((m - 1 - k : Nat) : Int)) (fun k => .int .i32 (f (m - 1 - k))) m (BackRd Bs b o m c f) := by
  refine ⟨fun l J W hRd hY h0 => ?_⟩
  refine callsIn_of_wp Tryd.func56 rfl trivial ?_ rfl
  simp only [Tryd.ntmps56, List.size_toArray, List.length_cons, List.length_nil, Nat.reduceAdd, Nat.reduceSub, Array.replicate_succ, Array.replicate_zero, List.push_toArray, List.append_toArray, List.nil_append, List.cons_append]
  have hBs := (hRd 0 W h0).1
  gi_wp2
  gi_loopw [3] (fun i wr => ∃ k : Nat, k ≤ m ∧ i = .int .i64 ((m : Int) - 1 - k) ∧ J k wr) (fun i _ => (intOf i + 1).toNat)
  case atStart => exact ⟨0, Nat.zero_le _, by simp, h0⟩
  case round =>
    obtain ⟨k, hk, rfl, hJ⟩ := hrel
    by_cases hlt : k < m
    · obtain ⟨i, e1, e2, him⟩ : ∃ i : Nat, ((m : Int) - 1 - k) = (i : Int) ∧ m - 1 - k = i ∧ i < m := ⟨m - 1 - k, by omega, rfl, by omega⟩
      have hy := hY k wr hlt hJ
      simp only [e2] at hy
      obtain ⟨fn, tmps, assign, body, hy, hR⟩ := hy
      have hBk := (hRd k wr hJ).1
      have hck := (hRd k wr hJ).2 i him
      clear e2
      rw [e1]
      gi_wp2
      refine hR.mono ?_
      rintro e W3 ⟨rfl, hJ3⟩
      gi_wp2
      go_roundw
      case rel => exact ⟨k + 1, by omega, by congr 1; omega, hJ3⟩
      case measure => simp [intOf]
    · obtain rfl : k = m := by omega
      have e1 : ((k : Int) - 1 - k) = -1 := by omega
      rw [e1]
      gi_wp2
      go_end0
      exact ⟨⟨_, rfl⟩, hJ⟩
end Go.Proofs.YtglndihdhaaccaaDoor

namespace Go.Proofs.YtglndihdhaaccaaDoor
open Go.RowKit
open Go.ChangeShapes Go.WideShapes Go.ChangeAt
open Go.Proofs.YtglndihdhaaccaaDoor.SA
theorem VJ.aside {W W' : World} {g K q : Nat} {f : Nat → Int} {o : Obj} (h : VJ W g K f) (hq : W.heap[q]? = some o) (ho : o.isCells = false) (hO : Only q W W') : VJ W' g K f := by
  obtain ⟨cur, h1, h2⟩ := h
  exact ⟨cur, h1.only hO (blk_aside h1 hq ho), h2⟩
theorem VJ.ne {W : World} {g K g2 t : Nat} {f : Nat → Int} {cs : Array Value} (h : VJ W g K f) (hb : Blk W g2 t cs) (ht : t ≠ 21) : g2 ≠ g := by
  obtain ⟨cur, h1, _⟩ := h
  exact blk_ne hb h1 ht
theorem VJ.copied {W : World} {g K : Nat} {f : Nat → Int} {cur : List Value} (h : Blk W g 21 (over cur 0 ((List.range K).map fun i => jV (f i))).toArray) (hs : K ≤ cur.length) : VJ W g K f := by
  refine ⟨_, h, by rw [List.size_toArray]; unfold over; simp, fun i hi => ?_⟩
  rw [List.getElem?_toArray]
  unfold over
  simp [List.getElem?_append, hi]
/-- the variables of induce -/
structure Cst (w : World) (b b2 b5 b7 g5 g7 n K c7 : Nat) (W : World) : Prop where
  h2 : Blk W b2 110 #[.pointer (some ⟨b, 0, none⟩)]
  h5 : Blk W b5 81 #[.slice (some ⟨g5, 0, none⟩) n n]
  h7 : Blk W b7 81 #[.slice (some ⟨g7, 0, none⟩) K c7]
  lo : w.heap.size ≤ g5 ∧ g5 < g7
  hF : From w W
section
variable {w W W' : World} {b b2 b5 b7 g5 g7 n K c7 q : Nat}
theorem Cst.from_ (h : Cst w b b2 b5 b7 g5 g7 n K c7 W) (hF : From W W') : Cst w b b2 b5 b7 g5 g7 n K c7 W' := ⟨h.h2.from_ hF, h.h5.from_ hF, h.h7.from_ hF, h.lo, h.hF.next hF⟩
theorem Cst.only {m : Nat} {f : Nat → Int} (h : Cst w b b2 b5 b7 g5 g7 n K c7 W) (hv : VJ W q m f) (hO : Only q W W') (hq : w.heap.size ≤ q) : Cst w b b2 b5 b7 g5 g7 n K c7 W' :=
  ⟨h.h2.only hO (hv.ne h.h2 (by decide)), h.h5.only hO (hv.ne h.h5 (by decide)), h.h7.only hO (hv.ne h.h7 (by decide)), h.lo, h.hF.only hO hq⟩
theorem Cst.aside {o : Obj} (h : Cst w b b2 b5 b7 g5 g7 n K c7 W) (hq : W.heap[q]? = some o) (ho : o.isCells = false) (hO : Only q W W') (hw : w.heap.size ≤ q) : Cst w b b2 b5 b7 g5 g7 n K c7 W' :=
  ⟨h.h2.only hO (blk_aside h.h2 hq ho), h.h5.only hO (blk_aside h.h5 hq ho), h.h7.only hO (blk_aside h.h7 hq ho), h.lo, h.hF.only hO hw⟩
end
theorem mu_copyB {P : Program} {ops : Array Oper} {fr : Fr} {L : List (Nat × Value)} {w : World} {ty : TypeId} {pos : String} {after : Array Edge} {dst : Option Nat} {x s : Operand} {post : Value → World → Prop} {dT sT e size g o m c j c2 : Nat} {A A2 : Option Addr} {u : TypeId} {cur news : List Value} (ht : elemQ P dT = some (e, size)) (hd : ev fr L x = .slice A m c) (hs : ev fr L s = .slice A2 j c2) (hn : news.length = min j m * size)
    (hA : 0 < news.length → A = some ⟨g, o, none⟩) (hsrc : 0 < news.length → ∃ b o, A2 = some ⟨b, o, none⟩ ∧ w.rangeAt b o news) (hb : Blk w g u cur.toArray) (hfit : o + news.length ≤ cur.length) (h1 : ∀ v ∈ news, v.oneCell' = true)
    (k : ∀ w', Only g w w' → Blk w' g u (over cur o news).toArray → post (.int .i64 (min j m : Nat)) w') :
    MuOK P ops fr L ⟨dst, .call { callee := .builtin .copy, args := #[x, s], argTypes := #[dT, sT] }, ty, pos, after, none⟩ w post :=
  let ⟨w', hr, ho, hb'⟩ := ro_copyB (sT := sT) ht hd hs hn hA hsrc hb hfit h1
  mu_ro hr (k w' ho hb')
section
variable {n : Nat} {t idx : Nat → Nat}
theorem inv2_step (h : Txt n t) (ho : Ord n t idx) {r i : Nat} {xs hs : Nat → Int} (hI : Inv2 n t idx r xs hs) (hr : r < n) (hx : xs r = ((i + 1 : Nat) : Int)) (hb : rb n t i = false) :
    hs (t i) = (pos n t idx i : Nat) ∧ Inv2 n t idx (r + 1) (upd xs (pos n t idx i) i) (upd hs (t i) ((pos n t idx i + 1 : Nat) : Int)) ∧ i < n ∧ pos n t idx i < n := by
  rcases inv2_at h hI hr with ⟨j, hj, hp, e⟩ | ⟨e, _⟩
  · obtain rfl : j = i + 1 := by omega
    have hi : i < n := by have := hj.1; omega
    obtain ⟨a, b⟩ := inv2_put h ho hI hi (rb_not.1 hb) hp
    refine ⟨a, ?_, hi, pos_lt hi⟩
    rw [a] at b
    exact b
  · omega
theorem inv2_no (h : Txt n t) (ho : Ord n t idx) {r : Nat} {xs hs : Nat → Int} (hI : Inv2 n t idx r xs hs) (hr : r < n) (hx : ∀ i : Nat, xs r = ((i + 1 : Nat) : Int) → rb n t i = true) : Inv2 n t idx (r + 1) xs hs := by
  refine inv2_skip hI fun i hi hf hp => ?_
  rcases inv2_at h hI hr with ⟨j, hj, hp2, e⟩ | ⟨_, hno⟩
  · obtain rfl := p2_inj h ho hj (FS_next h hi hf) (by rw [hp2, hp])
    exact hf (rb_iff.1 (hx i e))
  · exact hno _ (FS_next h hi hf) hp
theorem inv2_lo (h : Txt n t) {r : Nat} {xs hs : Nat → Int} (hI : Inv2 n t idx r xs hs) (hr : r < n) : -1 ≤ xs r ∧ xs r < n := by
  rcases inv2_at h hI hr with ⟨j, hj, _, e⟩ | ⟨e, _⟩
  · have := hj.1; omega
  · omega
theorem inv3_step (h : Txt n t) (ho : Ord n t idx) {r i : Nat} {xs ts : Nat → Int} (hI : Inv3 n t idx (r + 1) xs ts) (hr : r < n) (hx : xs r = ((i + 1 : Nat) : Int)) (hb : rb n t i = true) :
    ts (t i) - 1 = (pos n t idx i : Nat) ∧ Inv3 n t idx r (upd xs (pos n t idx i) i) (upd ts (t i) ((pos n t idx i : Nat) : Int)) ∧ i < n ∧ pos n t idx i < n := by
  obtain ⟨j, hj, hp, e⟩ := inv3_at h ho hI hr
  obtain rfl : j = i + 1 := by omega
  obtain ⟨a, b⟩ := inv3_put h ho hI hj (rb_iff.1 hb) hp
  refine ⟨a, ?_, by omega, pos_lt (by omega)⟩
  rw [a] at b
  exact b
theorem inv3_no (h : Txt n t) (ho : Ord n t idx) {r : Nat} {xs ts : Nat → Int} (hI : Inv3 n t idx (r + 1) xs ts) (hr : r < n) (hx : ∀ i : Nat, xs r = ((i + 1 : Nat) : Int) → rb n t i = false) : Inv3 n t idx r xs ts := by
  refine inv3_skip hI fun i hi hz hp => ?_
  obtain ⟨j, hj, hp2, e⟩ := inv3_at h ho hI hr
  obtain rfl := pos_inj h ho hj hi (by rw [hp2, hp])
  exact rb_not.1 (hx i e) hz
theorem inv3_lo (h : Txt n t) (ho : Ord n t idx) {r : Nat} {xs ts : Nat → Int} (hI : Inv3 n t idx (r + 1) xs ts) (hr : r < n) : 0 ≤ xs r ∧ xs r < n := by
  obtain ⟨j, hj, _, e⟩ := inv3_at h ho hI hr
  omega
theorem inv1_step (h : Txt n t) (ho : Ord n t idx) {q s : Nat} {xs ts : Nat → Int} (hI : Inv1 n t idx (q + 1) xs ts) (hs : lms n t s) (hq : idx s = q) :
    ts (t s) - 1 = (pos1 n t idx s : Nat) ∧ Inv1 n t idx q (upd xs (pos1 n t idx s) s) (upd ts (t s) ((pos1 n t idx s : Nat) : Int)) := by
  obtain ⟨a, b⟩ := inv1_put h ho hI hs hq
  refine ⟨a, ?_⟩
  rw [a] at b
  exact b
end
set_option maxHeartbeats 400000 in
theorem backward_rt (A : Option Addr) (m c : Nat) (w : World) :
    Rt Tryd.prog 53 [.slice A m c] w (fun v w' => (∃ Bs, v = .func (.func 56) #[] #[.pointer (some ⟨Bs, 0, none⟩)] ∧ w.heap.size ≤ Bs ∧ Blk w' Bs 81 #[.slice A m c]) ∧ From w w') := by
  refine enter (n := 4) Tryd.func53 rfl rfl rfl ?_
  refine cd_seq (cd_region ?_)
  refine st_box (v := .slice _ _ _) rfl ?_
  intro b1 w1 E1 hb1 hk1
  refine st_val (ro_assign (v := _) rfl) ?_
  refine st_nil (nx_then (cd_seq (cd_region ?_)))
  refine st_val (ro_makeFunc (l1 := []) (l2 := [.tmp 1])) ?_
  refine st_val (ro_assign (v := _) rfl) ?_
  refine st_nil (nx_then (cd_ret ?_))
  refine res1 (v := .func _ _ _) rfl rfl ?_
  exact ⟨⟨b1, rfl, Nat.le_of_eq hb1.symm, hk1⟩, (From.rfl_.next E1)⟩
end Go.Proofs.YtglndihdhaaccaaDoor

namespace Go.Proofs.YtglndihdhaaccaaDoor
open Go.RowKit
open Go.ChangeShapes Go.WideShapes Go.ChangeAt
open Go.Proofs.YtglndihdhaaccaaDoor.SA
theorem SufInduce_e81 : elemQ Tryd.prog 81 = some (21, 1) := by kernel_rfl
theorem SufInduce_m81 : makeQ Tryd.prog 81 = some (21, 4, (.int .i32 0)) := by kernel_rfl
theorem SufInduce_g110 : aggQ Tryd.prog 110 = some false := by kernel_rfl
theorem SufInduce_f124_0 : fieldQ Tryd.prog 124 0 = some 0 := by kernel_rfl
theorem SufInduce_g81 : aggQ Tryd.prog 81 = some false := by kernel_rfl
theorem SufInduce_l81 : (elemQ Tryd.prog 81).isSome = true := by kernel_rfl
theorem SufInduce_o81 : zeroQ Tryd.prog 81 = some (.slice none 0 0) := by kernel_rfl
theorem SufInduce_z81 : sizeQ Tryd.prog 81 = some 1 := by kernel_rfl
theorem SufInduce_z21 : sizeQ Tryd.prog 21 = some 1 := by kernel_rfl
theorem SufInduce_f124_4 : fieldQ Tryd.prog 124 4 = some 4 := by kernel_rfl
theorem SufInduce_k52 : callable Tryd.prog 52 = true := by kernel_rfl
theorem SufInduce_k53 : callable Tryd.prog 53 = true := by kernel_rfl
theorem SufInduce_g21 : aggQ Tryd.prog 21 = some false := by kernel_rfl
theorem SufInduce_k54 : callable Tryd.prog 54 = true := by kernel_rfl
theorem SufInduce_f124_2 : fieldQ Tryd.prog 124 2 = some 2 := by kernel_rfl
theorem SufInduce_g107 : aggQ Tryd.prog 107 = some false := by kernel_rfl
theorem SufInduce_e107 : elemQ Tryd.prog 107 = some (4, 1) := by kernel_rfl
theorem SufInduce_g4 : aggQ Tryd.prog 4 = some false := by kernel_rfl
set_option maxHeartbeats 4000000 in
theorem induce_rt (b n K m0 : Nat) (t ss : Nat → Nat) (w : World) (hT : TextAt w b n K t m0 ss) (h2n : 2 ≤ n) (ht : Txt n t) (hkt : ∀ i, i < n → t i < K) (hn : n ≤ 200000) (hK : K ≤ 200000) (bo oo m co : Nat) (od idx : Nat → Nat) (hod : ∀ q, q < m → w.cell? ⟨bo, oo + q, none⟩ = some (.int .i32 ((od q : Nat) : Int))) (hos : ∀ q, q < m → lms n t (od q) ∧ idx (od q) = q) (hall : ∀ s, lms n t s → idx s < m) (hord : Ord n t idx) (hm : m ≤ 200000) :
    Rt Tryd.prog 47 [.pointer (some ⟨b, 0, none⟩), .slice (some ⟨bo, oo, none⟩) m co] w (fun v w' => (∃ g xs, v = .slice (some ⟨g, 0, none⟩) n n ∧ w.heap.size ≤ g ∧ VJ w' g n xs ∧ ∀ i, i < n → xs (pos n t idx i) = i) ∧ From w w') := by
  have hT0 := hT
  obtain ⟨gl, gr, AS, cs, ge, hb, hl, hr, hss, he⟩ := hT
  have hK0 : 0 < K := Nat.lt_of_le_of_lt (Nat.zero_le _) (hkt 0 (by omega))
  refine enterM (n := 169) Tryd.func47 rfl rfl rfl ?_
  refine cd_seq (cd_region ?_)
  refine st_box (v := .pointer _) rfl ?_
  intro b2 w1 E2 hb2 hk2
  refine ass rfl ?_
  refine st_nil (nx_then (cd_seq (cd_region ?_)))
  refine st_val (ro_load SufInduce_g110 rfl (by exact (hk2.from_ From.rfl_).rd 0 rfl)) ?_
  refine st_val (ro_nilCheck rfl) ?_
  refine st_val (ro_fieldAddr SufInduce_f124_0 rfl) ?_
  refine st_val (ro_load SufInduce_g81 rfl (by exact cellF (From.rfl_.next E2) (hb.rd 0 rfl))) ?_
  refine st_val (ro_len SufInduce_l81 rfl) ?_
  refine st_make SufInduce_m81 rfl rfl rfl (by omega) (by omega) ?_
  intro b20 w2 E20 hb20 hk20
  have hg20 : w.heap.size ≤ b20 := by rw [hb20]; exact ((From.rfl_.next E2)).size
  refine st_alloc SufInduce_o81 ?_
  intro b5 w3 E5 hb5 hk5
  refine st_put (v := .slice _ _ _) SufInduce_z81 rfl rfl rfl (hk5) (by show 0 < 1; decide) ?_
  intro w4 O1 P1
  have hx1 : VJ w4 b20 n (fun _ => 0) := (VJ.of_blk (by rw [← tabJ_zero]; exact hk20.from_ E5)).only O1 (by have := hk20.lt; omega)
  have h2_1 := ((hk2.from_ E20).from_ E5).only O1 (by have := (hk2.from_ E20).lt; omega)
  refine st_nil (nx_then (cd_seq (cd_seq (cd_region ?_))))
  refine st_val (ro_load SufInduce_g81 rfl (by exact (P1).rd 0 rfl)) ?_
  refine st_val (ro_len SufInduce_l81 rfl) ?_
  refine mvi rfl ?_
  refine st_nil (nx_then (cd_block ?_))
  refine cd_loop (G := Nat × (Nat → Int)) [6, 24, 25, 26, 27, 28, 29] (fun (k, _) => [(23, .int .i64 (k : Nat))]) (fun (k, xs) w' => k ≤ n ∧ (∀ i, i < k → xs i = -1) ∧ VJ w' b20 n xs ∧ Blk w' b2 110 #[.pointer (some ⟨b, 0, none⟩)] ∧ Blk w' b5 81 #[.slice (some ⟨b20, 0, none⟩) n n] ∧ From w w') (fun (k, _) => n - k) ((0, fun _ => 0)) ⟨rfl, trivial⟩ ?_ ?_
  · exact ⟨Nat.zero_le _, fun i h => absurd h (by omega), hx1, h2_1, P1, ((((From.rfl_.next E2).next E20).next E5).only O1 ((by rw [hb5]; exact Nat.le_trans (Nat.le_trans hg20 (Nat.le_of_lt hk20.lt)) (Nat.le_refl _))))⟩
  rintro ⟨k, xs⟩ ρ5 w5 ⟨hk, hx0, hxs, h2b, h5b, hB⟩
  refine cd_seq (cd_region ?_)
  refine st_val (ro_lss rfl rfl) ?_
  refine st_nil (nx_then (cd_seq ?_))
  refine cd_cond rfl (fun Q6 => ?_) (fun Q6 => ?_)
  · with_reducible replace Q6 := of_decide_eq_true Q6
    have hkn : k < n := by omega
    obtain ⟨cu, hcu, hsz, hce⟩ := id hxs
    refine cd_skip (nx_then (cd_seq (cd_block (cd_seq (cd_region ?_)))))
    refine mvi rfl ?_
    refine asi rfl ?_
    refine st_nil (nx_then (cd_region ?_))
    refine st_val (ro_load SufInduce_g81 rfl (by exact h5b.rd 0 rfl)) ?_
    refine mvi rfl ?_
    refine st_val (ro_indexAddr0 SufInduce_e81 rfl rfl (by omega)) ?_
    refine st_put (v := .int _ _) SufInduce_z21 rfl rfl rfl (hcu) (by omega) ?_
    intro w7 O5 P5
    have hxs5 := VJ.put P5 hsz hce hkn
    have h2_5 := h2b.only O5 (hxs.ne h2b (by decide))
    have h5_5 := h5b.only O5 (hxs.ne h5b (by decide))
    refine st_nil (nx_block (nx_then (cd_region ?_)))
    refine st_val (ro_addN (b := 1) rfl rfl (by omega)) ?_
    refine mvi rfl ?_
    refine st_nil ?_
    refine nx_cut ((k + 1, upd xs k (-1))) ⟨(by first | rfl | (refine int_eq ?_; omega)), trivial⟩ (by (iterate 16 refine agr_cons rfl ?_); exact agr_rfl) ⟨?_, ?_⟩
    · refine ⟨by omega, fun i hi => ?_, hxs5, h2_5, h5_5, (hB.only O5 (hg20))⟩
      unfold upd
      split
      · rfl
      · exact hx0 i (by omega)
    · show n - (k + 1) < n - k; omega
  with_reducible replace Q6 := of_decide_eq_false Q6
  refine cd_exit ?_
  refine ex_then (ex_then (ex_block (nx_then (cd_seq (cd_region ?_)))))
  refine st_val (ro_load SufInduce_g110 rfl (by exact (h2b.from_ From.rfl_).rd 0 rfl)) ?_
  refine st_val (ro_nilCheck rfl) ?_
  refine st_val (ro_fieldAddr SufInduce_f124_4 rfl) ?_
  refine st_val (ro_load SufInduce_g81 rfl (by exact cellF hB (hb.rd 4 rfl))) ?_
  refine st_call SufInduce_k52 (clone_vj ge K _ _ (he.from_ hB) hK0 (by omega)) ?_
  rintro v34 w8 ⟨⟨g34, c34, rfl, hg34, htl⟩, E34⟩
  refine st_alloc SufInduce_o81 ?_
  intro b7 w9 E7 hb7 hk7
  refine st_put (v := .slice _ _ _) SufInduce_z81 rfl rfl rfl (hk7) (by show 0 < 1; decide) ?_
  intro w10 O7 P7
  obtain rfl : n = k := by omega
  have hxk : VJ _ b20 n (fun _ => -1) := VJ.congr hxs fun i hi => hx0 i hi
  have hxa := (hxk.from_ E34).from_ E7
  have hta := htl.from_ E7
  have hx7 := hxa.only O7 (Ne.symm (hxa.ne hk7 (by decide)))
  have ht7 := hta.only O7 (Ne.symm (hta.ne hk7 (by decide)))
  have h2_7 := ((h2b.from_ E34).from_ E7).only O7 (blk_ne ((h2b.from_ E34).from_ E7) hk7 (by decide))
  have h5_7 := ((h5b.from_ E34).from_ E7).only O7 (by have := (h5b.from_ E34).lt; omega)
  have hg34b : b20 < g34 := Nat.lt_of_lt_of_le hxs.lt hg34
  refine st_nil (nx_then (cd_seq (cd_seq (cd_region ?_))))
  refine mvs rfl ?_
  refine st_call SufInduce_k53 (backward_rt _ _ _ _) ?_
  rintro v36 w11 ⟨⟨Bs, rfl, hgs, hbs⟩, E36⟩
  have hB36 : From w w11 := ((((hB.next E34).next E7).only O7 ((by rw [hb7]; exact Nat.le_trans hB.size E34.size))).next E36)
  refine st_nil (nx_then (cd_block ?_))
  apply cd_range2 (u := fun k => .int .i64 ((m - 1 - k : Nat) : Int)) (v := fun k => .int .i32 ((od (m - 1 - k) : Nat) : Int)) (N := m) (Rd := BackRd Bs bo oo m co (fun q => ((od q : Nat) : Int))) rfl (enters_of Tryd.func56 (by kernel_rfl) rfl) (back_iter Bs bo oo m co (fun q => ((od q : Nat) : Int)) (by omega)) (fun k W => ∃ xs ts, Inv1 n t idx (m - k) xs ts ∧ VJ W b20 n xs ∧ VJ W g34 K ts ∧ Cst w b b2 b5 b7 b20 g34 n K c34 W ∧ Blk W Bs 81 #[.slice (some ⟨bo, oo, none⟩) m co])
  case ha =>
   intro l k W K hK
   refine cr_region rfl (fun ⟨_, _, h⟩ => h) ?_
   refine st_val (ro_assign (v := _) rfl) ?_
   refine st_nil ?_
   exact hK
  case hRd =>
   rintro k W ⟨xs, ts, hi1, hxs, hts, hc, hbs⟩
   exact ⟨hbs.rd 0 rfl, fun j hj => cellF hc.hF (hod j hj)⟩
  case hF =>
   rintro k W W' ⟨xs, ts, hi1, hxs, hts, hc, hbs⟩ hF
   exact ⟨xs, ts, hi1, hxs.from_ hF, hts.from_ hF, hc.from_ hF, hbs.from_ hF⟩
  case hO =>
   rintro k W W' q o hq ho hO hwq ⟨xs, ts, hi1, hxs, hts, hc, hbs⟩
   exact ⟨xs, ts, hi1, hxs.aside hq ho hO, hts.aside hq ho hO, hc.aside hq ho hO (Nat.le_trans (((((hB.next E34).next E7).only O7 ((by rw [hb7]; exact Nat.le_trans hB.size E34.size))).next E36)).size hwq), hbs.only hO (blk_aside hbs hq ho)⟩
  case h0 =>
   exact ⟨_, _, inv1_start (q := m) hall, hx7.from_ E36, ht7.from_ E36, ⟨h2_7.from_ E36, h5_7.from_ E36, P7.from_ E36, ⟨hg20, hg34b⟩, ((((hB.next E34).next E7).only O7 ((by rw [hb7]; exact Nat.le_trans hB.size E34.size))).next E36)⟩, hbs⟩
  case hb =>
   intro l k WB hkN hI
   obtain ⟨xs, ts, hi1, hxs, hts, hc, hbs⟩ := hI
   obtain ⟨q, hq, hq2⟩ : ∃ q, m - k = q + 1 ∧ m - 1 - k = q := ⟨m - 1 - k, by omega, rfl⟩
   rw [hq] at hi1
   rw [hq2]
   obtain ⟨hls, hiq⟩ := hos q (by omega)
   obtain ⟨hts1, hi2⟩ := inv1_step ht hord hi1 hls hiq
   have hp1 := pos1_lt (idx := idx) hls
   have hsn := hls.2.1
   have hcs := hkt _ hsn
   obtain ⟨s, hs⟩ : ∃ s, s = od q := ⟨_, rfl⟩
   rw [← hs] at hls hiq hts1 hi2 hp1 hsn hcs ⊢
   have hlo := hc.lo
   refine cr_block ?_
   refine cr_seq ?_
   apply cr_drawn 12 [(39, eqp _), (40, eqp _), (41, eqp _), (42, eqp _), (43, eqp _), (44, eqp _), (45, eqp _), (46, eqp _), (47, eqp _), (48, eqp _), (49, eqp _), (50, eqp _)] (by kernel_rfl) (by kernel_rfl) ⟨eqp_mono _, eqp_mono _, eqp_mono _, eqp_mono _, eqp_mono _, eqp_mono _, eqp_mono _, eqp_mono _, eqp_mono _, eqp_mono _, eqp_mono _, eqp_mono _, trivial⟩ (by kernel_rfl) (fun ⟨_, _, h⟩ => h)
   case hop =>
    refine ⟨?_, ?_⟩
    · intro w13 D13
      show OpOK _ _ _ _ _ _ _
      exact ok_pure (ro_load SufInduce_g81 rfl (by exact (hc.h7.from_ (From.rfl_.next D13)).rd 0 rfl)) rfl
    refine ⟨?_, ?_⟩
    · intro w14 D14
      show OpOK _ _ _ _ _ _ _
      exact ok_pure (ro_load SufInduce_g110 rfl (by exact (hc.h2.from_ (From.rfl_.next D14)).rd 0 rfl)) rfl
    refine ⟨?_, ?_⟩
    · intro w15 D15
      rintro _ rfl
      show OpOK _ _ _ _ _ _ _
      exact ok_pure (ro_nilCheck rfl) rfl
    refine ⟨?_, ?_⟩
    · intro w16 D16
      rintro _ rfl
      show OpOK _ _ _ _ _ _ _
      exact ok_pure (ro_fieldAddr SufInduce_f124_0 rfl) rfl
    refine ⟨?_, ?_⟩
    · intro w17 D17
      rintro _ rfl
      show OpOK _ _ _ _ _ _ _
      exact ok_pure (ro_load SufInduce_g81 rfl (by exact cellF (hc.hF.next D17) (hb.rd 0 rfl))) rfl
    refine ⟨?_, ?_⟩
    · intro w18 D18
      show OpOK _ _ _ _ _ _ _
      exact ok_pure (ro_move (v := .int _ _) rfl) rfl
    refine ⟨?_, ?_⟩
    · intro w19 D19
      rintro _ rfl _ rfl
      show OpOK _ _ _ _ _ _ _
      exact ok_pure (ro_indexAddr0 SufInduce_e81 rfl rfl (by exact hsn)) rfl
    refine ⟨?_, ?_⟩
    · intro w20 D20
      rintro _ rfl
      show OpOK _ _ _ _ _ _ _
      exact ok_pure (ro_load SufInduce_g21 rfl (by exact (hl.from_ (hc.hF.next D20)).rdN hsn)) rfl
    refine ⟨?_, ?_⟩
    · intro w21 D21
      rintro _ rfl _ rfl
      show OpOK _ _ _ _ _ _ _
      exact ok_pure (ro_indexAddr0 SufInduce_e81 rfl rfl (by exact hcs)) rfl
    refine ⟨?_, ?_⟩
    · intro w22 D22
      rintro _ rfl
      show OpOK _ _ _ _ _ _ _
      exact ok_pure (ro_load SufInduce_g21 rfl (by exact (hts.from_ (From.rfl_.next D22)).rd hcs)) rfl
    refine ⟨?_, ?_⟩
    · intro w23 D23
      rintro _ rfl
      show OpOK _ _ _ _ _ _ _
      exact ok_pure (ro_sub32 (r := ((pos1 n t idx s : Nat) : Int)) rfl rfl hts1 (by omega)) rfl
    refine ⟨?_, ?_⟩
    · intro w24 D24
      rintro _ rfl _ rfl
      show OpOK _ _ _ _ _ _ _
      exact ok_pure (ro_indexAddr0 SufInduce_e81 rfl rfl (by exact hcs)) rfl
    exact trivial
   case hend =>
    intro w25 D25
    rintro _ rfl _ rfl _ rfl _ rfl _ rfl _ rfl _ rfl _ rfl _ rfl _ rfl _ rfl _ rfl
    show St _ _ _ _ _ _ _
    have hxsD := hxs.from_ D25
    have htsD := hts.from_ D25
    have hcD := hc.from_ D25
    have hbsD := hbs.from_ D25
    obtain ⟨ct, hbk10, hst, hct⟩ := hts.from_ D25
    have hkD : Keeps WB _ := Keeps.from_ D25
    refine st_put (v := .int _ _) SufInduce_z21 rfl rfl rfl (hbk10) (by omega) ?_
    intro w26 O10 P10
    have hts10 := VJ.put P10 hst hct hcs
    have hxs10 := hxsD.only O10 (by omega)
    have hc10 := hcD.only htsD O10 (by omega)
    have hbs10 := hbsD.only O10 (htsD.ne hbsD (by decide))
    have hk10 := hkD.trans (Keeps.only O10 hbk10)
    have hcell10 : (w26).cell? ⟨g34, t s, none⟩ = some (.int .i32 ((pos1 n t idx s : Nat) : Int)) := by rw [hts10.rd hcs, upd_same]
    refine st_nil ?_
    refine nr_then ?_
    apply cr_drawn 13 [(51, eqp _), (52, eqp _), (53, eqp _), (54, eqp _), (55, eqp _), (56, eqp _), (57, eqp _), (58, eqp _), (59, eqp _), (60, eqp _), (61, eqp _), (62, eqp _), (63, eqp _)] (by kernel_rfl) (by kernel_rfl) ⟨eqp_mono _, eqp_mono _, eqp_mono _, eqp_mono _, eqp_mono _, eqp_mono _, eqp_mono _, eqp_mono _, eqp_mono _, eqp_mono _, eqp_mono _, eqp_mono _, eqp_mono _, trivial⟩ (by kernel_rfl) (fun ⟨_, _, h⟩ => h)
    case hop =>
     refine ⟨?_, ?_⟩
     · intro w28 D28
       show OpOK _ _ _ _ _ _ _
       exact ok_pure (ro_load SufInduce_g81 rfl (by exact (hc10.h5.from_ (From.rfl_.next D28)).rd 0 rfl)) rfl
     refine ⟨?_, ?_⟩
     · intro w29 D29
       show OpOK _ _ _ _ _ _ _
       exact ok_pure (ro_load SufInduce_g81 rfl (by exact (hc10.h7.from_ (From.rfl_.next D29)).rd 0 rfl)) rfl
     refine ⟨?_, ?_⟩
     · intro w30 D30
       show OpOK _ _ _ _ _ _ _
       exact ok_pure (ro_load SufInduce_g110 rfl (by exact (hc10.h2.from_ (From.rfl_.next D30)).rd 0 rfl)) rfl
     refine ⟨?_, ?_⟩
     · intro w31 D31
       rintro _ rfl
       show OpOK _ _ _ _ _ _ _
       exact ok_pure (ro_nilCheck rfl) rfl
     refine ⟨?_, ?_⟩
     · intro w32 D32
       rintro _ rfl
       show OpOK _ _ _ _ _ _ _
       exact ok_pure (ro_fieldAddr SufInduce_f124_0 rfl) rfl
     refine ⟨?_, ?_⟩
     · intro w33 D33
       rintro _ rfl
       show OpOK _ _ _ _ _ _ _
       exact ok_pure (ro_load SufInduce_g81 rfl (by exact cellF (((hc.hF.next D25).only O10 ((by omega))).next D33) (hb.rd 0 rfl))) rfl
     refine ⟨?_, ?_⟩
     · intro w34 D34
       show OpOK _ _ _ _ _ _ _
       exact ok_pure (ro_move (v := .int _ _) rfl) rfl
     refine ⟨?_, ?_⟩
     · intro w35 D35
       rintro _ rfl _ rfl
       show OpOK _ _ _ _ _ _ _
       exact ok_pure (ro_indexAddr0 SufInduce_e81 rfl rfl (by exact hsn)) rfl
     refine ⟨?_, ?_⟩
     · intro w36 D36
       rintro _ rfl
       show OpOK _ _ _ _ _ _ _
       exact ok_pure (ro_load SufInduce_g21 rfl (by exact (hl.from_ (((hc.hF.next D25).only O10 ((by omega))).next D36)).rdN hsn)) rfl
     refine ⟨?_, ?_⟩
     · intro w37 D37
       rintro _ rfl _ rfl
       show OpOK _ _ _ _ _ _ _
       exact ok_pure (ro_indexAddr0 SufInduce_e81 rfl rfl (by exact hcs)) rfl
     refine ⟨?_, ?_⟩
     · intro w38 D38
       rintro _ rfl
       show OpOK _ _ _ _ _ _ _
       exact ok_pure (ro_load SufInduce_g21 rfl (by exact cellF (From.rfl_.next D38) hcell10)) rfl
     refine ⟨?_, ?_⟩
     · intro w39 D39
       show OpOK _ _ _ _ _ _ _
       exact ok_pure (ro_move (v := .int _ _) rfl) rfl
     refine ⟨?_, ?_⟩
     · intro w40 D40
       rintro _ rfl _ rfl
       show OpOK _ _ _ _ _ _ _
       exact ok_pure (ro_indexAddr0 SufInduce_e81 rfl rfl (by exact hp1)) rfl
     exact trivial
    case hend =>
     intro w41 D41
     rintro _ rfl _ rfl _ rfl _ rfl _ rfl _ rfl _ rfl _ rfl _ rfl _ rfl _ rfl _ rfl _ rfl
     show St _ _ _ _ _ _ _
     have hxsE := hxs10.from_ D41
     have htsE := hts10.from_ D41
     have hcE := hc10.from_ D41
     have hbsE := hbs10.from_ D41
     obtain ⟨cr, hbk11, hsr, hcr⟩ := hxs10.from_ D41
     have hkE := hk10.trans (Keeps.from_ D41)
     refine st_put (v := .int _ _) SufInduce_z21 rfl rfl rfl (hbk11) (by omega) ?_
     intro w42 O11 P11
     have hxs11 := VJ.put P11 hsr hcr hp1
     have hts11 := htsE.only O11 (by omega)
     have hc11 := hcE.only hxsE O11 (by omega)
     have hbs11 := hbsE.only O11 (hxsE.ne hbsE (by decide))
     have hk11 := hkE.trans (Keeps.only O11 hbk11)
     refine st_nil (nx_block ?_)
     exact ⟨⟨_, _, by rw [show m - (k + 1) = q by omega]; exact hi2, hxs11, hts11, hc11, hbs11⟩, hk11⟩
  case hd =>
   intro D WD hD hI hK
   obtain ⟨xs, ts, hi1, hxs, hts, hc, hbs⟩ := hI
   rw [Nat.sub_self] at hi1
   have hi2s := inv2_start hi1
   have hDw : w.heap.size ≤ D := Nat.le_trans hB36.size hD
   have hlo := hc.lo
   refine nx_block (nx_then (cd_seq (cd_region ?_)))
   refine st_val (ro_load SufInduce_g110 rfl (by exact (hc.h2.from_ From.rfl_).rd 0 rfl)) ?_
   refine st_call SufInduce_k54 (heads_rt b n K m0 t ss _ (hT0.from_ hc.hF) hK0 (by omega)) ?_
   rintro v65 w43 ⟨⟨g65, c65, rfl, hg65, hhd⟩, E65⟩
   have hd1 : b20 < g65 := Nat.lt_of_lt_of_le hxs.lt hg65
   have hd2 : g34 < g65 := Nat.lt_of_lt_of_le hts.lt hg65
   refine ass rfl ?_
   refine st_nil (nx_then (cd_seq (cd_seq (cd_region ?_))))
   refine st_val (ro_load SufInduce_g81 rfl (by exact ((hc.from_ E65).h5).rd 0 rfl)) ?_
   refine st_val (ro_len SufInduce_l81 rfl) ?_
   refine mvi rfl ?_
   refine st_nil (nx_then (cd_block ?_))
   refine cd_loop (G := Nat × (Nat → Int) × (Nat → Int)) [11, 12, 69, 70, 71, 72, 73, 74, 75, 76, 77, 78, 79, 80, 81, 82, 83, 84, 85, 86, 87, 88, 89, 90, 91, 92, 93, 94, 95, 96, 97, 98, 99, 100, 101, 102, 103, 104, 105, 106, 107, 108, 109, 110, 111, 112, 113] (fun (r, _, _) => [(68, .int .i64 (r : Nat))]) (fun (r, xs, hs) w' => r ≤ n ∧ Inv2 n t idx r xs hs ∧ VJ w' b20 n xs ∧ VJ w' g65 K hs ∧ VJ w' g34 K ts ∧ Cst w b b2 b5 b7 b20 g34 n K c34 w' ∧ w'.heap[D]? = some (.deferred (some []))) (fun (r, _, _) => n - r) ((0, xs, fun c => ((less n t c : Nat) : Int))) ⟨rfl, trivial⟩ ?_ ?_
   · exact ⟨Nat.zero_le _, hi2s, hxs.from_ E65, hhd, hts.from_ E65, hc.from_ E65, Keeps.from_ E65 _ _ hK rfl⟩
   rintro ⟨r, xs, hs⟩ ρ44 w44 ⟨hr0, hi2, hxs, hhd, hts, hc, hdD⟩
   refine cd_seq (cd_region ?_)
   refine st_val (ro_lss rfl rfl) ?_
   refine st_nil (nx_then (cd_seq ?_))
   refine cd_cond rfl (fun Q45 => ?_) (fun Q45 => ?_)
   · with_reducible replace Q45 := of_decide_eq_true Q45
     have hrn : r < n := by omega
     have hx1 := inv2_lo ht hi2 hrn
     refine cd_skip (nx_then ?_)
     refine cd_cut (G := (Nat → Int) × (Nat → Int)) [11, 12, 70, 71, 72, 73, 74, 75, 76, 77, 78, 79, 80, 81, 82, 83, 84, 85, 86, 87, 88, 89, 90, 91, 92, 93, 94, 95, 96, 97, 98, 99, 100, 101, 102, 103, 104, 105, 106, 107, 108, 109, 110, 111, 112] (fun (_, _) => []) (fun (xs, hs) w' => Inv2 n t idx (r + 1) xs hs ∧ VJ w' b20 n xs ∧ VJ w' g65 K hs ∧ VJ w' g34 K ts ∧ Cst w b b2 b5 b7 b20 g34 n K c34 w' ∧ w'.heap[D]? = some (.deferred (some []))) ?_ ?_
     · refine cd_block (cd_seq (cd_region ?_))
       refine mvi rfl ?_
       refine asi rfl ?_
       refine st_nil (nx_then (cd_seq (cd_region ?_)))
       refine st_val (ro_load SufInduce_g81 rfl (by exact (hc.h5.from_ From.rfl_).rd 0 rfl)) ?_
       refine mvi rfl ?_
       refine st_val (ro_indexAddr0 SufInduce_e81 rfl rfl (by exact hrn)) ?_
       refine st_val (ro_load SufInduce_g21 rfl (by exact (hxs.from_ From.rfl_).rd hrn)) ?_
       refine st_val (ro_sub32 (r := xs r - 1) rfl rfl rfl (by omega)) ?_
       refine asi rfl ?_
       refine st_nil (nx_then (cd_seq (cd_region ?_)))
       refine mvi rfl ?_
       refine st_val (ro_geq rfl rfl) ?_
       refine mvb rfl ?_
       refine st_split (t := 78) rfl (fun Q46 => ?_) (fun Q46 => ?_)
       · with_reducible replace Q46 := of_decide_eq_true Q46
         obtain ⟨i, hi⟩ : ∃ i : Nat, xs r = ((i + 1 : Nat) : Int) := ⟨(xs r - 1).toNat, by omega⟩
         have e12 : (Value.int .i32 (xs r - 1)) = .int .i32 ((i : Nat) : Int) := int_eq (by omega)
         rw [e12]
         have hin : i < n := by omega
         refine st_unguard rfl ?_
         refine st_val (ro_load SufInduce_g110 rfl (by exact (hc.h2.from_ From.rfl_).rd 0 rfl)) ?_
         refine st_unguard rfl ?_
         refine st_val (ro_nilCheck rfl) ?_
         refine st_unguard rfl ?_
         refine st_val (ro_fieldAddr SufInduce_f124_2 rfl) ?_
         refine st_unguard rfl ?_
         refine st_val (ro_load SufInduce_g107 rfl (by exact cellF hc.hF (hb.rd 2 rfl))) ?_
         refine st_unguard rfl ?_
         refine mvi rfl ?_
         refine st_unguard rfl ?_
         refine st_val (ro_indexAddr0 SufInduce_e107 rfl rfl (by exact hin)) ?_
         refine st_unguard rfl ?_
         refine st_val (ro_load SufInduce_g4 rfl (by exact (hr.from_ hc.hF).rd i (tabB_at hin))) ?_
         refine st_unguard rfl ?_
         refine st_val (ro_not rfl) ?_
         refine st_val (ro_pickT (v := .bool _) rfl rfl) ?_
         refine st_nil (nx_then ?_)
         refine cd_cond rfl (fun Q47 => ?_) (fun Q47 => ?_)
         · with_reducible replace Q47 := bn_t Q47
           have hrb : rb n t i = false := by simpa using Q47
           obtain ⟨he1, hi2n, _, hpn⟩ := inv2_step ht hord hi2 hrn hi hrb
           have hci := hkt i hin
           have hcl : (w44).cell? ⟨g65, t i, none⟩ = some (.int .i32 ((pos n t idx i : Nat) : Int)) := by rw [hhd.rd hci, he1]
           refine cd_seq ?_
           apply cd_drawn 13 [(88, eqp _), (89, eqp _), (90, eqp _), (91, eqp _), (92, eqp _), (93, eqp _), (94, eqp _), (95, eqp _), (96, eqp _), (97, eqp _), (98, eqp _), (99, eqp _), (100, eqp _)] (by kernel_rfl) (by kernel_rfl) ⟨eqp_mono _, eqp_mono _, eqp_mono _, eqp_mono _, eqp_mono _, eqp_mono _, eqp_mono _, eqp_mono _, eqp_mono _, eqp_mono _, eqp_mono _, eqp_mono _, eqp_mono _, trivial⟩
           case hop =>
            refine ⟨?_, ?_⟩
            · intro w49 D49
              show OpOK _ _ _ _ _ _ _
              exact ok_pure (ro_load SufInduce_g81 rfl (by exact (hc.h5.from_ (From.rfl_.next D49)).rd 0 rfl)) rfl
            refine ⟨?_, ?_⟩
            · intro w50 D50
              show OpOK _ _ _ _ _ _ _
              exact ok_pure (ro_move (v := .slice _ _ _) rfl) rfl
            refine ⟨?_, ?_⟩
            · intro w51 D51
              show OpOK _ _ _ _ _ _ _
              exact ok_pure (ro_load SufInduce_g110 rfl (by exact (hc.h2.from_ (From.rfl_.next D51)).rd 0 rfl)) rfl
            refine ⟨?_, ?_⟩
            · intro w52 D52
              rintro _ rfl
              show OpOK _ _ _ _ _ _ _
              exact ok_pure (ro_nilCheck rfl) rfl
            refine ⟨?_, ?_⟩
            · intro w53 D53
              rintro _ rfl
              show OpOK _ _ _ _ _ _ _
              exact ok_pure (ro_fieldAddr SufInduce_f124_0 rfl) rfl
            refine ⟨?_, ?_⟩
            · intro w54 D54
              rintro _ rfl
              show OpOK _ _ _ _ _ _ _
              exact ok_pure (ro_load SufInduce_g81 rfl (by exact cellF (hc.hF.next D54) (hb.rd 0 rfl))) rfl
            refine ⟨?_, ?_⟩
            · intro w55 D55
              show OpOK _ _ _ _ _ _ _
              exact ok_pure (ro_move (v := .int _ _) rfl) rfl
            refine ⟨?_, ?_⟩
            · intro w56 D56
              rintro _ rfl _ rfl
              show OpOK _ _ _ _ _ _ _
              exact ok_pure (ro_indexAddr0 SufInduce_e81 rfl rfl (by exact hin)) rfl
            refine ⟨?_, ?_⟩
            · intro w57 D57
              rintro _ rfl
              show OpOK _ _ _ _ _ _ _
              exact ok_pure (ro_load SufInduce_g21 rfl (by exact (hl.from_ (hc.hF.next D57)).rdN hin)) rfl
            refine ⟨?_, ?_⟩
            · intro w58 D58
              rintro _ rfl _ rfl
              show OpOK _ _ _ _ _ _ _
              exact ok_pure (ro_indexAddr0 SufInduce_e81 rfl rfl (by exact hci)) rfl
            refine ⟨?_, ?_⟩
            · intro w59 D59
              rintro _ rfl
              show OpOK _ _ _ _ _ _ _
              exact ok_pure (ro_load SufInduce_g21 rfl (by exact cellF (From.rfl_.next D59) hcl)) rfl
            refine ⟨?_, ?_⟩
            · intro w60 D60
              show OpOK _ _ _ _ _ _ _
              exact ok_pure (ro_move (v := .int _ _) rfl) rfl
            refine ⟨?_, ?_⟩
            · intro w61 D61
              rintro _ rfl _ rfl
              show OpOK _ _ _ _ _ _ _
              exact ok_pure (ro_indexAddr0 SufInduce_e81 rfl rfl (by exact hpn)) rfl
            exact trivial
           case hend =>
            intro w62 D62
            rintro _ rfl _ rfl _ rfl _ rfl _ rfl _ rfl _ rfl _ rfl _ rfl _ rfl _ rfl _ rfl _ rfl
            show St _ _ _ _ _ _ _
            have hxsD := hxs.from_ D62
            have htsD := hts.from_ D62
            have hhdD := hhd.from_ D62
            have hcD := hc.from_ D62
            obtain ⟨cr, hbk18, hsr, hcr⟩ := hxs.from_ D62
            have hdDD := Keeps.from_ D62 _ _ hdD rfl
            refine st_put (v := .int _ _) SufInduce_z21 rfl rfl rfl (hbk18) (by omega) ?_
            intro w63 O18 P18
            have hxs18 := VJ.put P18 hsr hcr hpn
            have hts18 := htsD.only O18 (by omega)
            have hhd18 := hhdD.only O18 (by omega)
            have hc18 := hcD.only hxsD O18 (by omega)
            have hdD18 := Keeps.only O18 hbk18 _ _ hdDD rfl
            have hcl18 : (w63).cell? ⟨g65, t i, none⟩ = some (.int .i32 ((pos n t idx i : Nat) : Int)) := by rw [hhd18.rd hci, he1]
            obtain ⟨ch, hbk19, hsh, hch⟩ := id hhd18
            refine st_nil (nx_then (cd_region ?_))
            refine mvs rfl ?_
            refine st_val (ro_load SufInduce_g110 rfl (by exact (hc18.h2.from_ From.rfl_).rd 0 rfl)) ?_
            refine st_val (ro_nilCheck rfl) ?_
            refine st_val (ro_fieldAddr SufInduce_f124_0 rfl) ?_
            refine st_val (ro_load SufInduce_g81 rfl (by exact cellF ((hc.hF.next D62).only O18 ((by omega))) (hb.rd 0 rfl))) ?_
            refine mvi rfl ?_
            refine st_val (ro_indexAddr0 SufInduce_e81 rfl rfl (by exact hin)) ?_
            refine st_val (ro_load SufInduce_g21 rfl (by exact (hl.from_ ((hc.hF.next D62).only O18 ((by omega)))).rdN hin)) ?_
            refine st_val (ro_indexAddr0 SufInduce_e81 rfl rfl (by exact hci)) ?_
            refine st_val (ro_load SufInduce_g21 rfl (by exact cellF From.rfl_ hcl18)) ?_
            refine st_val (ro_add32 (r := ((pos n t idx i + 1 : Nat) : Int)) rfl rfl (by omega) (by omega)) ?_
            refine st_val (ro_indexAddr0 SufInduce_e81 rfl rfl (by exact hci)) ?_
            refine st_put (v := .int _ _) SufInduce_z21 rfl rfl rfl (hbk19) (by omega) ?_
            intro w64 O19 P19
            have hhd19 := VJ.put P19 hsh hch hci
            have hts19 := hts18.only O19 (by omega)
            have hxs19 := hxs18.only O19 (by omega)
            have hc19 := hc18.only hhd18 O19 (by omega)
            have hdD19 := Keeps.only O19 hbk19 _ _ hdD18 rfl
            refine st_nil (nx_block ?_)
            refine nx_cut ((upd xs (pos n t idx i) i, upd hs (t i) ((pos n t idx i + 1 : Nat) : Int))) trivial (by (iterate 46 refine agr_cons rfl ?_); exact agr_rfl) ?_
            exact ⟨hi2n, hxs19, hhd19, hts19, hc19, hdD19⟩
         with_reducible replace Q47 := bn_f Q47
         have hno : ∀ i' : Nat, xs r = ((i' + 1 : Nat) : Int) → rb n t i' = true := fun i' h' => by
           obtain rfl : i' = i := by omega
           simpa using Q47
         refine cd_skip (nx_block ?_)
         refine nx_cut ((xs, hs)) trivial (by (iterate 21 refine agr_cons rfl ?_); exact agr_rfl) ?_
         exact ⟨inv2_no ht hord hi2 hrn hno, hxs.from_ From.rfl_, hhd.from_ From.rfl_, hts.from_ From.rfl_, hc.from_ From.rfl_, Keeps.from_ From.rfl_ _ _ hdD rfl⟩
       with_reducible replace Q46 := of_decide_eq_false Q46
       have hno : ∀ i' : Nat, xs r = ((i' + 1 : Nat) : Int) → rb n t i' = true := fun i' h' => absurd h' (by omega)
       refine st_gno rfl rfl ?_
       refine st_gno rfl rfl ?_
       refine st_gno rfl rfl ?_
       refine st_gno rfl rfl ?_
       refine st_gno rfl rfl ?_
       refine st_gno rfl rfl ?_
       refine st_gno rfl rfl ?_
       refine st_gno rfl rfl ?_
       refine st_val (ro_pickF (v := .bool _) rfl rfl) ?_
       refine st_nil (nx_then ?_)
       refine cd_condF rfl ?_
       refine cd_skip (nx_block ?_)
       refine nx_cut ((xs, hs)) trivial (by (iterate 21 refine agr_cons rfl ?_); exact agr_rfl) ?_
       exact ⟨inv2_no ht hord hi2 hrn hno, hxs.from_ From.rfl_, hhd.from_ From.rfl_, hts.from_ From.rfl_, hc.from_ From.rfl_, Keeps.from_ From.rfl_ _ _ hdD rfl⟩
     rintro ⟨xs', hs'⟩ ρ65 w65 ⟨hi2', hxs', hhd', hts', hc', hdD'⟩
     refine cd_region ?_
     refine st_val (ro_addN (b := 1) rfl rfl (by omega)) ?_
     refine mvi rfl ?_
     refine st_nil ?_
     refine nx_cut ((r + 1, xs', hs')) ⟨(by first | rfl | (refine int_eq ?_; omega)), trivial⟩ (by (iterate 96 refine agr_cons rfl ?_); exact agr_rfl) ⟨?_, ?_⟩
     · exact ⟨by omega, hi2', hxs'.from_ From.rfl_, hhd'.from_ From.rfl_, hts'.from_ From.rfl_, hc'.from_ From.rfl_, Keeps.from_ From.rfl_ _ _ hdD' rfl⟩
     · show n - (r + 1) < n - r; omega
   with_reducible replace Q45 := of_decide_eq_false Q45
   refine cd_exit ?_
   refine ex_then (ex_then (ex_block (nx_then (cd_seq ?_))))
   apply cd_mu9 6 5 [] [(114, eqp _), (115, eqp _), (116, eqp _), (117, eqp _), (118, eqp _), (119, fun _ w' => VJ w' g34 K (fun c => ((less n t (c + 1) : Nat) : Int)))] (fun w' => From w44 w') (fun w' => VJ w' b20 n xs ∧ Cst w b b2 b5 b7 b20 g34 n K c34 w' ∧ w'.heap[D]? = some (.deferred (some []))) (by repeat first | exact pq_bodyM | refine pq_then ?_ | refine pq_block ?_) (by kernel_rfl) (by kernel_rfl) (by kernel_rfl) ⟨eqp_mono _, eqp_mono _, eqp_mono _, eqp_mono _, eqp_mono _, (fun _ _ _ hF h => h.from_ hF), trivial⟩ (From.rfl_.d1) (⟨hxs.from_ From.rfl_.d1, hc.from_ From.rfl_.d1, Keeps.from_ From.rfl_.d1 _ _ hdD rfl⟩) (fun _ _ hF h => h.next hF) (fun _ _ hF h => ⟨h.1.from_ hF, h.2.1.from_ hF, Keeps.from_ hF _ _ h.2.2 rfl⟩)
   case hop =>
    refine ⟨?_, ?_⟩
    · rintro - w67 D67
      show OpOK _ _ _ _ _ _ _
      exact ok_pure (ro_load SufInduce_g81 rfl (by exact (hc.h7.from_ D67).rd 0 rfl)) rfl
    refine ⟨?_, ?_⟩
    · rintro - w68 ⟨hxs21, hc21, hdD21⟩
      show OpOK _ _ _ _ _ _ _
      exact ok_pure (ro_load SufInduce_g110 rfl (by exact hc21.h2.rd 0 rfl)) rfl
    refine ⟨?_, ?_⟩
    · rintro - w69 ⟨hxs21, hc21, hdD21⟩
      rintro _ rfl
      show OpOK _ _ _ _ _ _ _
      exact ok_pure (ro_nilCheck rfl) rfl
    refine ⟨?_, ?_⟩
    · rintro - w70 D70
      rintro _ rfl
      show OpOK _ _ _ _ _ _ _
      exact ok_pure (ro_fieldAddr SufInduce_f124_4 rfl) rfl
    refine ⟨?_, ?_⟩
    · rintro - w71 D71
      rintro _ rfl
      show OpOK _ _ _ _ _ _ _
      exact ok_pure (ro_load SufInduce_g81 rfl (by exact cellF (hc.hF.next D71) (hb.rd 4 rfl))) rfl
    refine ⟨?_, ?_⟩
    · intro h; cases h
    exact trivial
   case hmu =>
    rintro w73 D73
    rintro _ rfl _ rfl
    show MuOK _ _ _ _ _ _ _
    have hlo := hc.lo
    have hxsD := hxs.from_ D73
    have htsD := hts.from_ D73
    have hcD := hc.from_ D73
    obtain ⟨⟨cl⟩, hbk21, hst, hct⟩ := hts.from_ D73
    have hdDD := Keeps.from_ D73 _ _ hdD rfl
    have hstl : K ≤ cl.length := hst
    refine mu_copyB (sT := 81) (g := g34) (o := 0) (cur := cl) (news := (List.range K).map fun c => jV (less n t (c + 1) : Nat)) SufInduce_e81 rfl rfl (by simp) (fun _ => rfl) (fun _ => ⟨ge, 0, rfl, (he.from_ (hc.hF.next D73)).range (Nat.le_refl K)⟩) hbk21 (by simp; omega) (by simp [Value.oneCell']) ?_
    intro w3 hO hb3
    exact ⟨⟨hxsD.only hO (by omega), hcD.only htsD hO (by omega), Keeps.only hO hbk21 _ _ hdDD rfl⟩, VJ.copied hb3 hstl, fun t u ht h => muR_look (by repeat first | exact trivial | refine ⟨.inl rfl, ?_⟩ | refine ⟨.inr (fun _ h => h), ?_⟩) t u ht h⟩
   case hend =>
    rintro w74 ⟨hxs21, hc21, hdD21⟩
    rintro _ rfl _ rfl _ rfl _ rfl _ rfl v119 hts21
    show St _ _ _ _ _ _ _
    refine st_nil (nx_then (cd_seq (cd_seq (cd_region ?_))))
    refine st_val (ro_load SufInduce_g81 rfl (by exact (hc21.h5.from_ From.rfl_).rd 0 rfl)) ?_
    refine st_val (ro_len SufInduce_l81 rfl) ?_
    refine st_val (ro_sub64 rfl rfl (by omega)) ?_
    refine asi rfl ?_
    refine st_nil (nx_then (cd_block ?_))
    refine cd_loop (G := Nat × (Nat → Int) × (Nat → Int)) [14, 123, 124, 125, 126, 127, 128, 129, 130, 131, 132, 133, 134, 135, 136, 137, 138, 139, 140, 141, 142, 143, 144, 145, 146, 147, 148, 149, 150, 151, 152, 153, 154, 155, 156, 157, 158, 159, 160, 161, 162, 163, 164, 165, 166, 167] (fun (r, _, _) => [(13, .int .i64 ((r : Nat) - 1 : Int))]) (fun (r, xs, ts) w' => r ≤ n ∧ Inv3 n t idx r xs ts ∧ VJ w' b20 n xs ∧ VJ w' g34 K ts ∧ Cst w b b2 b5 b7 b20 g34 n K c34 w' ∧ w'.heap[D]? = some (.deferred (some []))) (fun (r, _, _) => r) ((n, xs, fun c => ((less n t (c + 1) : Nat) : Int))) ⟨rfl, trivial⟩ ?_ ?_
    · obtain rfl : r = n := by omega
      exact ⟨Nat.le_refl _, inv3_start ht h2n hi2, hxs21.from_ From.rfl_, hts21.from_ From.rfl_, hc21.from_ From.rfl_, Keeps.from_ From.rfl_ _ _ hdD21 rfl⟩
    rintro ⟨r, xs, ts⟩ ρ75 w75 ⟨hr0, hi3, hxs, hts, hc, hdD⟩
    refine cd_seq (cd_seq (cd_region ?_))
    refine mvi rfl ?_
    refine st_val (ro_geq rfl rfl) ?_
    refine st_nil (nx_then ?_)
    refine cd_cond rfl (fun Q76 => ?_) (fun Q76 => ?_)
    · with_reducible replace Q76 := of_decide_eq_true Q76
      obtain ⟨r, rfl⟩ : ∃ r', r = r' + 1 := ⟨r - 1, by omega⟩
      have e13 : (Value.int .i64 (((r + 1 : Nat) : Int) - 1)) = .int .i64 ((r : Nat) : Int) := int_eq (by omega)
      have hrn : r < n := by omega
      have hx1 := inv3_lo ht hord hi3 hrn
      refine cd_skip (nx_then ?_)
      refine cd_cut (G := (Nat → Int) × (Nat → Int)) [14, 127, 128, 129, 130, 131, 132, 133, 134, 135, 136, 137, 138, 139, 140, 141, 142, 143, 144, 145, 146, 147, 148, 149, 150, 151, 152, 153, 154, 155, 156, 157, 158, 159, 160, 161, 162, 163, 164, 165, 166, 167] (fun (_, _) => []) (fun (xs, ts) w' => Inv3 n t idx r xs ts ∧ VJ w' b20 n xs ∧ VJ w' g34 K ts ∧ Cst w b b2 b5 b7 b20 g34 n K c34 w' ∧ w'.heap[D]? = some (.deferred (some []))) ?_ ?_
      · refine cd_block (cd_seq (cd_region ?_))
        refine st_val (ro_load SufInduce_g81 rfl (by exact (hc.h5.from_ From.rfl_).rd 0 rfl)) ?_
        refine mvi rfl ?_
        refine st_spell (t := 128) (v := .int _ _) (v' := .int .i64 ((r : Nat) : Int)) rfl (by exact e13) ?_
        refine st_val (ro_indexAddr0 SufInduce_e81 rfl rfl (by exact hrn)) ?_
        refine st_val (ro_load SufInduce_g21 rfl (by exact (hxs.from_ From.rfl_).rd hrn)) ?_
        refine st_val (ro_sub32 (r := xs r - 1) rfl rfl rfl (by omega)) ?_
        refine asi rfl ?_
        refine st_nil (nx_then (cd_seq (cd_region ?_)))
        refine mvi rfl ?_
        refine st_val (ro_geq rfl rfl) ?_
        refine mvb rfl ?_
        refine st_split (t := 134) rfl (fun Q77 => ?_) (fun Q77 => ?_)
        · with_reducible replace Q77 := of_decide_eq_true Q77
          obtain ⟨i, hi⟩ : ∃ i : Nat, xs r = ((i + 1 : Nat) : Int) := ⟨(xs r - 1).toNat, by omega⟩
          have e12 : (Value.int .i32 (xs r - 1)) = .int .i32 ((i : Nat) : Int) := int_eq (by omega)
          rw [e12]
          have hin : i < n := by omega
          refine st_unguard rfl ?_
          refine st_val (ro_load SufInduce_g110 rfl (by exact (hc.h2.from_ From.rfl_).rd 0 rfl)) ?_
          refine st_unguard rfl ?_
          refine st_val (ro_nilCheck rfl) ?_
          refine st_unguard rfl ?_
          refine st_val (ro_fieldAddr SufInduce_f124_2 rfl) ?_
          refine st_unguard rfl ?_
          refine st_val (ro_load SufInduce_g107 rfl (by exact cellF hc.hF (hb.rd 2 rfl))) ?_
          refine st_unguard rfl ?_
          refine mvi rfl ?_
          refine st_unguard rfl ?_
          refine st_val (ro_indexAddr0 SufInduce_e107 rfl rfl (by exact hin)) ?_
          refine st_unguard rfl ?_
          refine st_val (ro_load SufInduce_g4 rfl (by exact (hr.from_ hc.hF).rd i (tabB_at hin))) ?_
          refine st_val (ro_pickT (v := .bool _) rfl rfl) ?_
          refine st_nil (nx_then ?_)
          refine cd_cond rfl (fun Q78 => ?_) (fun Q78 => ?_)
          · (try with_reducible first | (replace Q78 := of_decide_eq_true Q78; trace "@MK N induce_rt:c24-.c69-.c124+.g134+.c142+ 1.1") | (replace Q78 := of_decide_eq_false Q78; trace "@MK N induce_rt:c24-.c69-.c124+.g134+.c142+ 1.2") | (replace Q78 := bn_t Q78; trace "@MK N induce_rt:c24-.c69-.c124+.g134+.c142+ 1.3") | (replace Q78 := bn_f Q78; trace "@MK N induce_rt:c24-.c69-.c124+.g134+.c142+ 1.4"))
            (try with_reducible first | (replace Q78 := of_decide_eq_true Q78; trace "@MK N induce_rt:c24-.c69-.c124+.g134+.c142+ 2.1") | (replace Q78 := of_decide_eq_false Q78; trace "@MK N induce_rt:c24-.c69-.c124+.g134+.c142+ 2.2") | (replace Q78 := bx_t Q78; trace "@MK N induce_rt:c24-.c69-.c124+.g134+.c142+ 2.3") | (replace Q78 := bx_f Q78; trace "@MK N induce_rt:c24-.c69-.c124+.g134+.c142+ 2.4") | (replace Q78 := be_t Q78; trace "@MK N induce_rt:c24-.c69-.c124+.g134+.c142+ 2.5") | (replace Q78 := be_f Q78; trace "@MK N induce_rt:c24-.c69-.c124+.g134+.c142+ 2.6"))
            have hrb : rb n t i = true := Q78
            obtain ⟨he1, hi3n, _, hpn⟩ := inv3_step ht hord hi3 hrn hi hrb
            have hci := hkt i hin
            refine cd_seq ?_
            apply cd_drawn 12 [(143, eqp _), (144, eqp _), (145, eqp _), (146, eqp _), (147, eqp _), (148, eqp _), (149, eqp _), (150, eqp _), (151, eqp _), (152, eqp _), (153, eqp _), (154, eqp _)] (by kernel_rfl) (by kernel_rfl) ⟨eqp_mono _, eqp_mono _, eqp_mono _, eqp_mono _, eqp_mono _, eqp_mono _, eqp_mono _, eqp_mono _, eqp_mono _, eqp_mono _, eqp_mono _, eqp_mono _, trivial⟩
            case hop =>
             refine ⟨?_, ?_⟩
             · intro w80 D80
               show OpOK _ _ _ _ _ _ _
               exact ok_pure (ro_load SufInduce_g81 rfl (by exact (hc.h7.from_ (From.rfl_.next D80)).rd 0 rfl)) rfl
             refine ⟨?_, ?_⟩
             · intro w81 D81
               show OpOK _ _ _ _ _ _ _
               exact ok_pure (ro_load SufInduce_g110 rfl (by exact (hc.h2.from_ (From.rfl_.next D81)).rd 0 rfl)) rfl
             refine ⟨?_, ?_⟩
             · intro w82 D82
               rintro _ rfl
               show OpOK _ _ _ _ _ _ _
               exact ok_pure (ro_nilCheck rfl) rfl
             refine ⟨?_, ?_⟩
             · intro w83 D83
               rintro _ rfl
               show OpOK _ _ _ _ _ _ _
               exact ok_pure (ro_fieldAddr SufInduce_f124_0 rfl) rfl
             refine ⟨?_, ?_⟩
             · intro w84 D84
               rintro _ rfl
               show OpOK _ _ _ _ _ _ _
               exact ok_pure (ro_load SufInduce_g81 rfl (by exact cellF (hc.hF.next D84) (hb.rd 0 rfl))) rfl
             refine ⟨?_, ?_⟩
             · intro w85 D85
               show OpOK _ _ _ _ _ _ _
               exact ok_pure (ro_move (v := .int _ _) rfl) rfl
             refine ⟨?_, ?_⟩
             · intro w86 D86
               rintro _ rfl _ rfl
               show OpOK _ _ _ _ _ _ _
               exact ok_pure (ro_indexAddr0 SufInduce_e81 rfl rfl (by exact hin)) rfl
             refine ⟨?_, ?_⟩
             · intro w87 D87
               rintro _ rfl
               show OpOK _ _ _ _ _ _ _
               exact ok_pure (ro_load SufInduce_g21 rfl (by exact (hl.from_ (hc.hF.next D87)).rdN hin)) rfl
             refine ⟨?_, ?_⟩
             · intro w88 D88
               rintro _ rfl _ rfl
               show OpOK _ _ _ _ _ _ _
               exact ok_pure (ro_indexAddr0 SufInduce_e81 rfl rfl (by exact hci)) rfl
             refine ⟨?_, ?_⟩
             · intro w89 D89
               rintro _ rfl
               show OpOK _ _ _ _ _ _ _
               exact ok_pure (ro_load SufInduce_g21 rfl (by exact (hts.from_ (From.rfl_.next D89)).rd hci)) rfl
             refine ⟨?_, ?_⟩
             · intro w90 D90
               rintro _ rfl
               show OpOK _ _ _ _ _ _ _
               exact ok_pure (ro_sub32 (r := ((pos n t idx i : Nat) : Int)) rfl rfl he1 (by omega)) rfl
             refine ⟨?_, ?_⟩
             · intro w91 D91
               rintro _ rfl _ rfl
               show OpOK _ _ _ _ _ _ _
               exact ok_pure (ro_indexAddr0 SufInduce_e81 rfl rfl (by exact hci)) rfl
             exact trivial
            case hend =>
             intro w92 D92
             rintro _ rfl _ rfl _ rfl _ rfl _ rfl _ rfl _ rfl _ rfl _ rfl _ rfl _ rfl _ rfl
             show St _ _ _ _ _ _ _
             have hxsD := hxs.from_ D92
             have htsD := hts.from_ D92
             have hcD := hc.from_ D92
             obtain ⟨ct, hbk27, hst, hct⟩ := hts.from_ D92
             have hdDD := Keeps.from_ D92 _ _ hdD rfl
             refine st_put (v := .int _ _) SufInduce_z21 rfl rfl rfl (hbk27) (by omega) ?_
             intro w93 O27 P27
             have hts27 := VJ.put P27 hst hct hci
             have hxs27 := hxsD.only O27 (by omega)
             have hc27 := hcD.only htsD O27 (by omega)
             have hdD27 := Keeps.only O27 hbk27 _ _ hdDD rfl
             have hcl27 : (w93).cell? ⟨g34, t i, none⟩ = some (.int .i32 ((pos n t idx i : Nat) : Int)) := by rw [hts27.rd hci, upd_same]
             refine st_nil (nx_then ?_)
             apply cd_drawn 13 [(155, eqp _), (156, eqp _), (157, eqp _), (158, eqp _), (159, eqp _), (160, eqp _), (161, eqp _), (162, eqp _), (163, eqp _), (164, eqp _), (165, eqp _), (166, eqp _), (167, eqp _)] (by kernel_rfl) (by kernel_rfl) ⟨eqp_mono _, eqp_mono _, eqp_mono _, eqp_mono _, eqp_mono _, eqp_mono _, eqp_mono _, eqp_mono _, eqp_mono _, eqp_mono _, eqp_mono _, eqp_mono _, eqp_mono _, trivial⟩
             case hop =>
              refine ⟨?_, ?_⟩
              · intro w95 D95
                show OpOK _ _ _ _ _ _ _
                exact ok_pure (ro_load SufInduce_g81 rfl (by exact (hc27.h5.from_ (From.rfl_.next D95)).rd 0 rfl)) rfl
              refine ⟨?_, ?_⟩
              · intro w96 D96
                show OpOK _ _ _ _ _ _ _
                exact ok_pure (ro_load SufInduce_g81 rfl (by exact (hc27.h7.from_ (From.rfl_.next D96)).rd 0 rfl)) rfl
              refine ⟨?_, ?_⟩
              · intro w97 D97
                show OpOK _ _ _ _ _ _ _
                exact ok_pure (ro_load SufInduce_g110 rfl (by exact (hc27.h2.from_ (From.rfl_.next D97)).rd 0 rfl)) rfl
              refine ⟨?_, ?_⟩
              · intro w98 D98
                rintro _ rfl
                show OpOK _ _ _ _ _ _ _
                exact ok_pure (ro_nilCheck rfl) rfl
              refine ⟨?_, ?_⟩
              · intro w99 D99
                rintro _ rfl
                show OpOK _ _ _ _ _ _ _
                exact ok_pure (ro_fieldAddr SufInduce_f124_0 rfl) rfl
              refine ⟨?_, ?_⟩
              · intro w100 D100
                rintro _ rfl
                show OpOK _ _ _ _ _ _ _
                exact ok_pure (ro_load SufInduce_g81 rfl (by exact cellF (((hc.hF.next D92).only O27 ((by omega))).next D100) (hb.rd 0 rfl))) rfl
              refine ⟨?_, ?_⟩
              · intro w101 D101
                show OpOK _ _ _ _ _ _ _
                exact ok_pure (ro_move (v := .int _ _) rfl) rfl
              refine ⟨?_, ?_⟩
              · intro w102 D102
                rintro _ rfl _ rfl
                show OpOK _ _ _ _ _ _ _
                exact ok_pure (ro_indexAddr0 SufInduce_e81 rfl rfl (by exact hin)) rfl
              refine ⟨?_, ?_⟩
              · intro w103 D103
                rintro _ rfl
                show OpOK _ _ _ _ _ _ _
                exact ok_pure (ro_load SufInduce_g21 rfl (by exact (hl.from_ (((hc.hF.next D92).only O27 ((by omega))).next D103)).rdN hin)) rfl
              refine ⟨?_, ?_⟩
              · intro w104 D104
                rintro _ rfl _ rfl
                show OpOK _ _ _ _ _ _ _
                exact ok_pure (ro_indexAddr0 SufInduce_e81 rfl rfl (by exact hci)) rfl
              refine ⟨?_, ?_⟩
              · intro w105 D105
                rintro _ rfl
                show OpOK _ _ _ _ _ _ _
                exact ok_pure (ro_load SufInduce_g21 rfl (by exact cellF (From.rfl_.next D105) hcl27)) rfl
              refine ⟨?_, ?_⟩
              · intro w106 D106
                show OpOK _ _ _ _ _ _ _
                exact ok_pure (ro_move (v := .int _ _) rfl) rfl
              refine ⟨?_, ?_⟩
              · intro w107 D107
                rintro _ rfl _ rfl
                show OpOK _ _ _ _ _ _ _
                exact ok_pure (ro_indexAddr0 SufInduce_e81 rfl rfl (by exact hpn)) rfl
              exact trivial
             case hend =>
              intro w108 D108
              rintro _ rfl _ rfl _ rfl _ rfl _ rfl _ rfl _ rfl _ rfl _ rfl _ rfl _ rfl _ rfl _ rfl
              show St _ _ _ _ _ _ _
              have hxsE := hxs27.from_ D108
              have htsE := hts27.from_ D108
              have hcE := hc27.from_ D108
              obtain ⟨cr, hbk28, hsr, hcr⟩ := hxs27.from_ D108
              have hdDE := Keeps.from_ D108 _ _ hdD27 rfl
              refine st_put (v := .int _ _) SufInduce_z21 rfl rfl rfl (hbk28) (by omega) ?_
              intro w109 O28 P28
              have hxs28 := VJ.put P28 hsr hcr hpn
              have hts28 := htsE.only O28 (by omega)
              have hc28 := hcE.only hxsE O28 (by omega)
              have hdD28 := Keeps.only O28 hbk28 _ _ hdDE rfl
              refine st_nil (nx_block ?_)
              refine nx_cut ((upd xs (pos n t idx i) i, upd ts (t i) ((pos n t idx i : Nat) : Int))) trivial (by (iterate 44 refine agr_cons rfl ?_); exact agr_rfl) ?_
              exact ⟨hi3n, hxs28, hts28, hc28, hdD28⟩
          (try with_reducible first | (replace Q78 := of_decide_eq_true Q78; trace "@MK N induce_rt:c24-.c69-.c124+.g134+.c142- 1.1") | (replace Q78 := of_decide_eq_false Q78; trace "@MK N induce_rt:c24-.c69-.c124+.g134+.c142- 1.2") | (replace Q78 := bn_t Q78; trace "@MK N induce_rt:c24-.c69-.c124+.g134+.c142- 1.3") | (replace Q78 := bn_f Q78; trace "@MK N induce_rt:c24-.c69-.c124+.g134+.c142- 1.4"))
          (try with_reducible first | (replace Q78 := of_decide_eq_true Q78; trace "@MK N induce_rt:c24-.c69-.c124+.g134+.c142- 2.1") | (replace Q78 := of_decide_eq_false Q78; trace "@MK N induce_rt:c24-.c69-.c124+.g134+.c142- 2.2") | (replace Q78 := bx_t Q78; trace "@MK N induce_rt:c24-.c69-.c124+.g134+.c142- 2.3") | (replace Q78 := bx_f Q78; trace "@MK N induce_rt:c24-.c69-.c124+.g134+.c142- 2.4") | (replace Q78 := be_t Q78; trace "@MK N induce_rt:c24-.c69-.c124+.g134+.c142- 2.5") | (replace Q78 := be_f Q78; trace "@MK N induce_rt:c24-.c69-.c124+.g134+.c142- 2.6"))
          have hno : ∀ i' : Nat, xs r = ((i' + 1 : Nat) : Int) → rb n t i' = false := fun i' h' => by
            obtain rfl : i' = i := by omega
            exact Q78
          refine cd_skip (nx_block ?_)
          refine nx_cut ((xs, ts)) trivial (by (iterate 19 refine agr_cons rfl ?_); exact agr_rfl) ?_
          exact ⟨inv3_no ht hord hi3 hrn hno, hxs.from_ From.rfl_, hts.from_ From.rfl_, hc.from_ From.rfl_, Keeps.from_ From.rfl_ _ _ hdD rfl⟩
        with_reducible replace Q77 := of_decide_eq_false Q77
        have hno : ∀ i' : Nat, xs r = ((i' + 1 : Nat) : Int) → rb n t i' = false := fun i' h' => absurd h' (by omega)
        refine st_gno rfl rfl ?_
        refine st_gno rfl rfl ?_
        refine st_gno rfl rfl ?_
        refine st_gno rfl rfl ?_
        refine st_gno rfl rfl ?_
        refine st_gno rfl rfl ?_
        refine st_gno rfl rfl ?_
        refine st_val (ro_pickF (v := .bool _) rfl rfl) ?_
        refine st_nil (nx_then ?_)
        refine cd_condF rfl ?_
        refine cd_skip (nx_block ?_)
        refine nx_cut ((xs, ts)) trivial (by (iterate 19 refine agr_cons rfl ?_); exact agr_rfl) ?_
        exact ⟨inv3_no ht hord hi3 hrn hno, hxs.from_ From.rfl_, hts.from_ From.rfl_, hc.from_ From.rfl_, Keeps.from_ From.rfl_ _ _ hdD rfl⟩
      rintro ⟨xs', ts'⟩ ρ110 w110 ⟨hi3', hxs', hts', hc', hdD'⟩
      refine cd_region ?_
      refine mvi rfl ?_
      refine st_val (ro_sub64 rfl rfl (by omega)) ?_
      refine asi rfl ?_
      refine st_nil ?_
      refine nx_cut ((r, xs', ts')) ⟨(by first | rfl | (refine int_eq ?_; omega)), trivial⟩ (by (iterate 94 refine agr_cons rfl ?_); exact agr_rfl) ⟨?_, ?_⟩
      · exact ⟨by omega, hi3', hxs'.from_ From.rfl_, hts'.from_ From.rfl_, hc'.from_ From.rfl_, Keeps.from_ From.rfl_ _ _ hdD' rfl⟩
      · show r < r + 1; omega
    with_reducible replace Q76 := of_decide_eq_false Q76
    refine cd_exit ?_
    refine ex_then (ex_then (ex_block (nx_then (cd_seq (cd_region ?_)))))
    refine st_val (ro_load SufInduce_g81 rfl (by exact (hc.h5.from_ From.rfl_).rd 0 rfl)) ?_
    refine ass rfl ?_
    refine st_nil (nx_then (cd_ret ?_))
    refine resM (v := .slice _ _ _) rfl rfl (Keeps.from_ From.rfl_ _ _ hdD rfl) ?_
    intro wX OX
    obtain rfl : r = 0 := by omega
    exact ⟨⟨b20, xs, rfl, hg20, (hxs.from_ From.rfl_).aside (Keeps.from_ From.rfl_ _ _ hdD rfl) rfl OX, inv3_end hi3⟩, (hc.hF.next From.rfl_).only OX hDw⟩
end Go.Proofs.YtglndihdhaaccaaDoor

namespace Go.Proofs.YtglndihdhaaccaaDoor
open Go.RowKit
open Go.ChangeShapes Go.WideShapes Go.ChangeAt
open Go.Proofs.YtglndihdhaaccaaDoor.SA
theorem SufEq_e81 : elemQ Tryd.prog 81 = some (21, 1) := by kernel_rfl
theorem SufEq_m81 : makeQ Tryd.prog 81 = some (21, 4, (.int .i32 0)) := by kernel_rfl
theorem SufEq_l81 : (elemQ Tryd.prog 81).isSome = true := by kernel_rfl
theorem SufEq_g21 : aggQ Tryd.prog 21 = some false := by kernel_rfl
theorem SufEq_f124_3 : fieldQ Tryd.prog 124 3 = some 3 := by kernel_rfl
theorem SufEq_g81 : aggQ Tryd.prog 81 = some false := by kernel_rfl
theorem SufEq_z21 : sizeQ Tryd.prog 21 = some 1 := by kernel_rfl
theorem eq_ge {α : Type} {a b : List α} {k : Nat} (hl : a.length = b.length) (hk : ¬ k < a.length) (h : a.take k = b.take k) : a = b := by
  rw [List.take_of_length_le (by omega), List.take_of_length_le (by omega)] at h
  exact h
theorem take_eq {α : Type} {a b : List α} {k : Nat} (ha : k < a.length) (hb : k < b.length) (h : a.take k = b.take k) (he : a[k] = b[k]) : a.take (k + 1) = b.take (k + 1) := by
  rw [List.take_succ_eq_append_getElem ha, List.take_succ_eq_append_getElem hb, h, he]
set_option maxHeartbeats 400000 in
theorem equal32_rt (A B : Option Addr) (ca cb n m : Nat) (a b : List Int) (w : World) (ha : RowOf jV w A a) (hb : RowOf jV w B b) (hn : n = a.length) (hm : m = b.length) (hl : n ≤ 1000000000000) :
    Rt Tryd.prog 55 [.slice A n ca, .slice B m cb] w (fun v w' => v = .bool (decide (a = b)) ∧ From w w') := by
  refine enter (n := 26) Tryd.func55 rfl rfl rfl ?_
  refine cd_seq (cd_region ?_)
  refine asb rfl ?_
  refine st_nil (nx_then (cd_seq (cd_seq (cd_region ?_))))
  refine mvs rfl ?_
  refine st_val (ro_len SufEq_l81 rfl) ?_
  refine mvs rfl ?_
  refine st_val (ro_len SufEq_l81 rfl) ?_
  refine st_val (ro_neq rfl rfl) ?_
  refine st_nil (nx_then ?_)
  refine cd_cond rfl (fun Q1 => ?_) (fun Q1 => ?_)
  · with_reducible replace Q1 := bx_t Q1
    refine cd_seq (cd_region ?_)
    refine asb rfl ?_
    refine st_nil (nx_then (cd_ret (rt_then ?_)))
    refine res1 (v := .bool _) rfl rfl ?_
    exact ⟨by rw [decide_eq_false]; rintro rfl; omega, From.rfl_⟩
  with_reducible replace Q1 := bx_f Q1
  refine cd_skip (nx_then (cd_seq (cd_seq (cd_region ?_))))
  refine mvs rfl ?_
  refine st_val (ro_len SufEq_l81 rfl) ?_
  refine mvi rfl ?_
  refine st_nil (nx_then (cd_block ?_))
  refine cd_loop (G := Nat) [4, 5, 14, 15, 16, 17, 18, 19, 20, 21, 22, 23, 24, 25] (fun k => [(13, .int .i64 (k : Nat))]) (fun k w' => k ≤ n ∧ a.take k = b.take k ∧ From w w') (fun k => n - k) (0) ⟨rfl, trivial⟩ ?_ ?_
  · exact ⟨Nat.zero_le _, rfl, From.rfl_⟩
  rintro k ρ2 w2 ⟨hk, ht, hB⟩
  refine cd_seq (cd_region ?_)
  refine st_val (ro_lss rfl rfl) ?_
  refine st_nil (nx_then (cd_seq ?_))
  refine cd_cond rfl (fun Q3 => ?_) (fun Q3 => ?_)
  · with_reducible replace Q3 := of_decide_eq_true Q3
    have hka : k < a.length := by omega
    have hkb : k < b.length := by omega
    obtain ⟨ba, oa, rfl, hca⟩ := ha (by omega)
    obtain ⟨bb, ob, rfl, hcb⟩ := hb (by omega)
    refine cd_skip (nx_then (cd_seq (cd_block (cd_seq (cd_region ?_)))))
    refine mvi rfl ?_
    refine asi rfl ?_
    refine st_nil (nx_then (cd_seq ?_))
    apply cd_drawn 9 [(16, eqp _), (17, eqp _), (18, eqp _), (19, eqp _), (20, eqp _), (21, eqp _), (22, eqp _), (23, eqp _), (24, eqp _)] (by kernel_rfl) (by kernel_rfl) ⟨eqp_mono _, eqp_mono _, eqp_mono _, eqp_mono _, eqp_mono _, eqp_mono _, eqp_mono _, eqp_mono _, eqp_mono _, trivial⟩
    case hop =>
     refine ⟨?_, ?_⟩
     · intro w5 D5
       show OpOK _ _ _ _ _ _ _
       exact ok_pure (ro_move (v := .slice _ _ _) rfl) rfl
     refine ⟨?_, ?_⟩
     · intro w6 D6
       show OpOK _ _ _ _ _ _ _
       exact ok_pure (ro_move (v := .int _ _) rfl) rfl
     refine ⟨?_, ?_⟩
     · intro w7 D7
       rintro _ rfl _ rfl
       show OpOK _ _ _ _ _ _ _
       exact ok_pure (ro_indexAddr1 SufEq_e81 rfl rfl (by omega)) rfl
     refine ⟨?_, ?_⟩
     · intro w8 D8
       rintro _ rfl
       show OpOK _ _ _ _ _ _ _
       exact ok_pure (ro_load SufEq_g21 rfl (by exact cellF (hB.next D8) (hca k hka))) rfl
     refine ⟨?_, ?_⟩
     · intro w9 D9
       show OpOK _ _ _ _ _ _ _
       exact ok_pure (ro_move (v := .slice _ _ _) rfl) rfl
     refine ⟨?_, ?_⟩
     · intro w10 D10
       show OpOK _ _ _ _ _ _ _
       exact ok_pure (ro_move (v := .int _ _) rfl) rfl
     refine ⟨?_, ?_⟩
     · intro w11 D11
       rintro _ rfl _ rfl
       show OpOK _ _ _ _ _ _ _
       exact ok_pure (ro_indexAddr1 SufEq_e81 rfl rfl (by omega)) rfl
     refine ⟨?_, ?_⟩
     · intro w12 D12
       rintro _ rfl
       show OpOK _ _ _ _ _ _ _
       exact ok_pure (ro_load SufEq_g21 rfl (by exact cellF (hB.next D12) (hcb k hkb))) rfl
     refine ⟨?_, ?_⟩
     · intro w13 D13
       rintro _ rfl _ rfl
       show OpOK _ _ _ _ _ _ _
       exact ok_pure (ro_neq rfl rfl) rfl
     exact trivial
    case hend =>
     intro w14 D14
     rintro _ rfl _ rfl _ rfl _ rfl _ rfl _ rfl _ rfl _ rfl _ rfl
     show St _ _ _ _ _ _ _
     refine st_nil (nx_then ?_)
     refine cd_cond rfl (fun Q15 => ?_) (fun Q15 => ?_)
     · with_reducible replace Q15 := bx_t Q15
       refine cd_seq (cd_region ?_)
       refine asb rfl ?_
       refine st_nil (nx_then (cd_ret (rt_block (rt_then (rt_then (rt_block (rt_then ?_)))))))
       refine res1 (v := .bool _) rfl rfl ?_
       exact ⟨by rw [decide_eq_false]; rintro rfl; simp_all, (hB.next D14)⟩
     with_reducible replace Q15 := bx_f Q15
     refine cd_skip (nx_block (nx_then (cd_region ?_)))
     refine st_val (ro_addN (b := 1) rfl rfl (by omega)) ?_
     refine mvi rfl ?_
     refine st_nil ?_
     refine nx_cut (k + 1) ⟨(by first | rfl | (refine int_eq ?_; omega)), trivial⟩ (by (iterate 29 refine agr_cons rfl ?_); exact agr_rfl) ⟨?_, ?_⟩
     · exact ⟨by omega, take_eq hka hkb ht (by simp_all), (hB.next D14)⟩
     · show n - (k + 1) < n - k; omega
  with_reducible replace Q3 := of_decide_eq_false Q3
  refine cd_exit ?_
  refine ex_then (ex_then (ex_block (nx_then (cd_seq (cd_region ?_)))))
  refine asb rfl ?_
  refine st_nil (nx_then (cd_ret ?_))
  refine res1 (v := .bool _) rfl rfl ?_
  exact ⟨by rw [decide_eq_true (eq_ge (k := k) (by omega) (by omega) ht)], hB⟩
theorem text_ss {w : World} {AS : Option Addr} {m : Nat} {ss : Nat → Nat} (h : 0 < m → ∃ g, AS = some ⟨g, 0, none⟩ ∧ VJ w g m (fun k => (ss k : Nat))) (h0 : 0 < m) : ∃ bs os, AS = some ⟨bs, os, none⟩ ∧ ∀ k, k < m → w.cell? ⟨bs, os + k, none⟩ = some (.int .i32 ((ss k : Nat) : Int)) := by
  obtain ⟨g, rfl, hv⟩ := h h0
  exact ⟨g, 0, rfl, fun k hk => by rw [Nat.zero_add]; exact hv.rdN hk⟩
set_option maxHeartbeats 400000 in
theorem startsAt_rt (b n K m : Nat) (t ss : Nat → Nat) (w : World) (hT : TextAt w b n K t m ss) (h0 : 0 < m) (hm : m ≤ 200000) (g : Nat) (nu : Nat → Nat) (hg : VJ w g m (fun r => (nu r : Nat))) (hnu : ∀ r, r < m → nu r < m) :
    Rt Tryd.prog 48 [.pointer (some ⟨b, 0, none⟩), .slice (some ⟨g, 0, none⟩) m m] w (fun v w' => (∃ g2, v = .slice (some ⟨g2, 0, none⟩) m m ∧ w.heap.size ≤ g2 ∧ VJ w' g2 m (fun r => ((ss (nu r) : Nat) : Int))) ∧ From w w') := by
  obtain ⟨gl, gr, AS, cs, ge, hb, hl, hr, hss, he⟩ := hT
  obtain ⟨bs, os, rfl, hsc⟩ := text_ss hss h0
  refine enter (n := 30) Tryd.func48 rfl rfl rfl ?_
  refine cd_seq (cd_region ?_)
  refine ass rfl ?_
  refine st_nil (nx_then (cd_seq (cd_region ?_)))
  refine mvs rfl ?_
  refine st_val (ro_len SufEq_l81 rfl) ?_
  refine st_make SufEq_m81 rfl rfl rfl (by omega) (by omega) ?_
  intro b10 w1 E10 hb10 hk10
  have hg10 : w.heap.size ≤ b10 := by rw [hb10]; exact (From.rfl_).size
  refine ass rfl ?_
  refine st_nil (nx_then (cd_seq (cd_seq (cd_region ?_))))
  refine mvs rfl ?_
  refine st_val (ro_len SufEq_l81 rfl) ?_
  refine mvi rfl ?_
  refine st_nil (nx_then (cd_block ?_))
  refine cd_loop (G := Nat × (Nat → Int)) [6, 7, 14, 15, 16, 17, 18, 19, 20, 21, 22, 23, 24, 25, 26, 27, 28] (fun (k, _) => [(13, .int .i64 (k : Nat))]) (fun (k, xs) w' => k ≤ m ∧ (∀ i, i < k → xs i = ((ss (nu i) : Nat) : Int)) ∧ VJ w' b10 m xs ∧ From w w') (fun (k, _) => m - k) ((0, fun _ => 0)) ⟨rfl, trivial⟩ ?_ ?_
  · exact ⟨Nat.zero_le _, fun i h => absurd h (by omega), VJ.of_blk (by rw [← tabJ_zero]; exact hk10), (From.rfl_.next E10)⟩
  rintro ⟨k, xs⟩ ρ2 w2 ⟨hk, hx0, hxs, hB⟩
  refine cd_seq (cd_region ?_)
  refine st_val (ro_lss rfl rfl) ?_
  refine st_nil (nx_then (cd_seq ?_))
  refine cd_cond rfl (fun Q3 => ?_) (fun Q3 => ?_)
  · with_reducible replace Q3 := of_decide_eq_true Q3
    have hkm : k < m := by omega
    obtain ⟨cu, hcu, hsz, hce⟩ := id hxs
    have hnk := hnu k hkm
    refine cd_skip (nx_then (cd_seq (cd_block (cd_seq (cd_region ?_)))))
    refine mvi rfl ?_
    refine st_val (ro_indexAddr0 SufEq_e81 rfl rfl (by exact hkm)) ?_
    refine st_val (ro_load SufEq_g21 rfl (by exact (hg.from_ hB).rdN hkm)) ?_
    refine asi rfl ?_
    refine asi rfl ?_
    refine st_nil (nx_then (cd_region ?_))
    refine mvs rfl ?_
    refine mvi rfl ?_
    refine mvp rfl ?_
    refine st_val (ro_nilCheck rfl) ?_
    refine st_val (ro_fieldAddr SufEq_f124_3 rfl) ?_
    refine st_val (ro_load SufEq_g81 rfl (by exact cellF hB (hb.rd 3 rfl))) ?_
    refine mvi rfl ?_
    refine st_val (ro_indexAddr1 SufEq_e81 rfl rfl (by exact hnk)) ?_
    refine st_val (ro_load SufEq_g21 rfl (by exact cellF hB (hsc _ hnk))) ?_
    refine st_val (ro_indexAddr0 SufEq_e81 rfl rfl (by exact hkm)) ?_
    refine st_put (v := .int _ _) SufEq_z21 rfl rfl rfl (hcu) (by omega) ?_
    intro w4 O5 P5
    have hxs5 := VJ.put P5 hsz hce hkm
    refine st_nil (nx_block (nx_then (cd_region ?_)))
    refine st_val (ro_addN (b := 1) rfl rfl (by omega)) ?_
    refine mvi rfl ?_
    refine st_nil ?_
    refine nx_cut ((k + 1, upd xs k ((ss (nu k) : Nat) : Int))) ⟨(by first | rfl | (refine int_eq ?_; omega)), trivial⟩ (by (iterate 36 refine agr_cons rfl ?_); exact agr_rfl) ⟨?_, ?_⟩
    · refine ⟨by omega, fun i hi => ?_, hxs5, (hB.only O5 (hg10))⟩
      unfold upd
      split
      · rename_i e; rw [e]
      · exact hx0 i (by omega)
    · show m - (k + 1) < m - k; omega
  with_reducible replace Q3 := of_decide_eq_false Q3
  refine cd_exit ?_
  refine ex_then (ex_then (ex_block (nx_then (cd_seq (cd_region ?_)))))
  refine mvs rfl ?_
  refine ass rfl ?_
  refine st_nil (nx_then (cd_ret ?_))
  refine res1 (v := .slice _ _ _) rfl rfl ?_
  obtain rfl : m = k := by omega
  exact ⟨⟨b10, rfl, hg10, hxs.congr hx0⟩, hB⟩
end Go.Proofs.YtglndihdhaaccaaDoor

namespace Go.Proofs.YtglndihdhaaccaaDoor
open Go.RowKit
open Go.ChangeShapes Go.WideShapes Go.ChangeAt
open Go.Proofs.YtglndihdhaaccaaDoor.SA
theorem SufPiece_e81 : elemQ Tryd.prog 81 = some (21, 1) := by kernel_rfl
theorem SufPiece_s3 : (Tryd.prog.underlying 3).isSome = true := by kernel_rfl
theorem SufPiece_i21 : Tryd.prog.underlying 21 = some (.int .i32) := by kernel_rfl
theorem SufPiece_f124_3 : fieldQ Tryd.prog 124 3 = some 3 := by kernel_rfl
theorem SufPiece_g81 : aggQ Tryd.prog 81 = some false := by kernel_rfl
theorem SufPiece_l81 : (elemQ Tryd.prog 81).isSome = true := by kernel_rfl
theorem SufPiece_f124_0 : fieldQ Tryd.prog 124 0 = some 0 := by kernel_rfl
theorem SufPiece_g21 : aggQ Tryd.prog 21 = some false := by kernel_rfl
theorem SufPiece_k55 : callable Tryd.prog 55 = true := by kernel_rfl
def segL (t : Nat → Nat) (i k : Nat) : List Int := (List.range k).map fun x => (t (i + x) : Int)
theorem segL_len {t : Nat → Nat} {i k : Nat} : (segL t i k).length = k := by simp [segL]
theorem text_seg {w : World} {g n l k : Nat} {t : Nat → Nat} (h : VJ w g n fun i => (t i : Nat)) (hl : l < n) (hk : l + k ≤ n) : RowOf jV w (restOf (some ⟨g, 0, none⟩) n l 1) (segL t l k) := fun h0 => by
  by_cases e : n = l
  · omega
  · refine ⟨g, l, ?_, fun i hi => ?_⟩
    · unfold restOf
      rw [if_neg e]
      simp [Addr.add]
      omega
    · rw [segL_len] at hi
      have := h.rd (i := l + i) (by omega)
      simpa [segL] using this
theorem segL_eq {t : Nat → Nat} {i j k : Nat} {k2 : Nat} : segL t i k = segL t j k2 ↔ k = k2 ∧ ∀ x, x < k → t (i + x) = t (j + x) := by
  constructor
  · intro h
    have e := congrArg List.length h
    rw [segL_len, segL_len] at e
    subst e
    refine ⟨rfl, fun x hx => ?_⟩
    have := congrArg (fun l => l[x]?) h
    simp [segL, hx] at this
    omega
  · rintro ⟨rfl, h⟩
    unfold segL
    exact List.map_congr_left fun x hx => by rw [h x (List.mem_range.1 hx)]
theorem same_last {n m a b : Nat} {t ss : Nat → Nat} (H : Starts n t m ss) (h : Txt n t) (h2 : 2 ≤ n) (ha : a < m) (hb : b < m) (hab : a = m - 1 ∨ b = m - 1) (he : piece n t (ss a) = piece n t (ss b)) : a = b := by
  have hl := H.last h h2
  rcases hab with rfl | rfl
  · rw [hl] at he
    have e := piece_last h (H.is b hb).2.1 he.symm
    exact H.inj ha hb (by rw [hl, e])
  · rw [hl] at he
    have e := piece_last h (H.is a ha).2.1 he
    exact H.inj ha hb (by rw [hl, e])
theorem same_seg {n m a b : Nat} {t ss : Nat → Nat} (H : Starts n t m ss) (h : Txt n t) (ha : a + 1 < m) (hb : b + 1 < m) : segL t (ss a) (ss (a + 1) + 1 - ss a) = segL t (ss b) (ss (b + 1) + 1 - ss b) ↔ piece n t (ss a) = piece n t (ss b) := by
  obtain ⟨a1, a2⟩ := H.next h ha
  obtain ⟨b1, b2⟩ := H.next h hb
  have a3 := H.up a (a + 1) (by omega) ha
  have b3 := H.up b (b + 1) (by omega) hb
  rw [segL_eq, piece_seg h a1 b1, a2, b2]
  exact ⟨fun ⟨x, y⟩ => ⟨by omega, fun k hk => y k (by omega)⟩, fun ⟨x, y⟩ => ⟨by omega, fun k hk => y k (by omega)⟩⟩
set_option maxHeartbeats 400000 in
theorem same_rt (b n K m : Nat) (t ss : Nat → Nat) (w : World) (hT : TextAt w b n K t m ss) (h0 : 0 < m) (hm : m ≤ 200000) (hn : n ≤ 200000) (H : Starts n t m ss) (h2 : 2 ≤ n) (ht : Txt n t) (x y : Nat) (hx : x < m) (hy : y < m) :
    Rt Tryd.prog 51 [.pointer (some ⟨b, 0, none⟩), .int .i32 (x : Nat), .int .i32 (y : Nat)] w (fun v w' => (∃ r, v = .bool r ∧ (r = true ↔ piece n t (ss x) = piece n t (ss y))) ∧ From w w') := by
  obtain ⟨gl, gr, AS, cs, ge, hb, hl, hr, hss, he⟩ := hT
  obtain ⟨bs, os, rfl, hsc⟩ := text_ss hss h0
  refine enter (n := 69) Tryd.func51 rfl rfl rfl ?_
  refine cd_seq (cd_region ?_)
  refine asb rfl ?_
  refine st_nil (nx_then (cd_seq (cd_region ?_)))
  refine mvp rfl ?_
  refine st_val (ro_nilCheck rfl) ?_
  refine st_val (ro_fieldAddr SufPiece_f124_3 rfl) ?_
  refine st_val (ro_load SufPiece_g81 rfl (by exact cellF From.rfl_ (hb.rd 3 rfl))) ?_
  refine st_val (ro_len SufPiece_l81 rfl) ?_
  refine st_val (ro_conv32 SufPiece_s3 SufPiece_i21 rfl (by omega)) ?_
  refine st_val (ro_sub32 (r := ((m - 1 : Nat) : Int)) rfl rfl (by omega) (by omega)) ?_
  refine asi rfl ?_
  refine st_nil (nx_then (cd_seq (cd_seq (cd_region ?_))))
  refine mvi rfl ?_
  refine mvi rfl ?_
  refine st_val (ro_eql rfl rfl) ?_
  refine mvb rfl ?_
  refine st_split (t := 18) rfl (fun Q1 => ?_) (fun Q1 => ?_)
  · with_reducible replace Q1 := of_decide_eq_true Q1
    refine st_gno rfl rfl ?_
    refine st_gno rfl rfl ?_
    refine st_gno rfl rfl ?_
    refine st_val (ro_pickT (v := .bool _) rfl rfl) ?_
    refine st_nil (nx_then ?_)
    refine cd_condT rfl ?_
    refine cd_seq (cd_region ?_)
    refine mvi rfl ?_
    refine mvi rfl ?_
    refine st_val (ro_eql rfl rfl) ?_
    refine asb rfl ?_
    refine st_nil (nx_then (cd_ret (rt_then ?_)))
    refine res1 (v := .bool _) rfl rfl ?_
    refine ⟨⟨_, rfl, ?_⟩, From.rfl_⟩
    rw [beq_iff_eq]
    constructor
    · intro h
      obtain rfl : x = y := by omega
      rfl
    · intro h
      have := same_last H ht h2 hx hy (by omega) h
      omega
  with_reducible replace Q1 := of_decide_eq_false Q1
  refine st_unguard rfl ?_
  refine mvi rfl ?_
  refine st_unguard rfl ?_
  refine mvi rfl ?_
  refine st_unguard rfl ?_
  refine st_val (ro_eql rfl rfl) ?_
  refine st_val (ro_pickF (v := .bool _) rfl rfl) ?_
  refine st_nil (nx_then ?_)
  refine cd_cond rfl (fun Q2 => ?_) (fun Q2 => ?_)
  · with_reducible replace Q2 := of_decide_eq_true Q2
    refine cd_seq (cd_region ?_)
    refine mvi rfl ?_
    refine mvi rfl ?_
    refine st_val (ro_eql rfl rfl) ?_
    refine asb rfl ?_
    refine st_nil (nx_then (cd_ret (rt_then ?_)))
    refine res1 (v := .bool _) rfl rfl ?_
    refine ⟨⟨_, rfl, ?_⟩, From.rfl_⟩
    rw [beq_iff_eq]
    constructor
    · intro h
      obtain rfl : x = y := by omega
      rfl
    · intro h
      have := same_last H ht h2 hx hy (by omega) h
      omega
  with_reducible replace Q2 := of_decide_eq_false Q2
  have hx1 : x + 1 < m := by omega
  have hy1 : y + 1 < m := by omega
  have a1 := (H.is (x + 1) hx1).2.1
  have a2 := H.up x (x + 1) (by omega) hx1
  have b1 := (H.is (y + 1) hy1).2.1
  have b2 := H.up y (y + 1) (by omega) hy1
  refine cd_skip (nx_then (cd_seq ?_))
  apply cd_drawn 44 [(26, eqp _), (27, eqp _), (28, eqp _), (29, eqp _), (30, eqp _), (31, eqp _), (32, eqp _), (33, eqp _), (34, eqp _), (35, eqp _), (36, eqp _), (37, eqp _), (38, eqp _), (39, eqp _), (40, eqp _), (41, eqp _), (42, eqp _), (43, eqp _), (44, eqp _), (45, eqp _), (46, eqp _), (47, eqp _), (48, eqp _), (49, eqp _), (50, eqp _), (51, eqp _), (52, eqp _), (53, eqp _), (54, eqp _), (55, eqp _), (56, eqp _), (57, eqp _), (58, eqp _), (59, eqp _), (60, eqp _), (61, eqp _), (62, eqp _), (63, eqp _), (64, eqp _), (65, eqp _), (66, eqp _), (67, eqp _), (68, eqp _), (6, eqp _)] (by kernel_rfl) (by kernel_rfl) ⟨eqp_mono _, eqp_mono _, eqp_mono _, eqp_mono _, eqp_mono _, eqp_mono _, eqp_mono _, eqp_mono _, eqp_mono _, eqp_mono _, eqp_mono _, eqp_mono _, eqp_mono _, eqp_mono _, eqp_mono _, eqp_mono _, eqp_mono _, eqp_mono _, eqp_mono _, eqp_mono _, eqp_mono _, eqp_mono _, eqp_mono _, eqp_mono _, eqp_mono _, eqp_mono _, eqp_mono _, eqp_mono _, eqp_mono _, eqp_mono _, eqp_mono _, eqp_mono _, eqp_mono _, eqp_mono _, eqp_mono _, eqp_mono _, eqp_mono _, eqp_mono _, eqp_mono _, eqp_mono _, eqp_mono _, eqp_mono _, eqp_mono _, eqp_mono _, trivial⟩
  case hop =>
   refine ⟨?_, ?_⟩
   · intro w4 D4
     show OpOK _ _ _ _ _ _ _
     exact ok_pure (ro_move (v := .pointer _) rfl) rfl
   refine ⟨?_, ?_⟩
   · intro w5 D5
     rintro _ rfl
     show OpOK _ _ _ _ _ _ _
     exact ok_pure (ro_nilCheck rfl) rfl
   refine ⟨?_, ?_⟩
   · intro w6 D6
     rintro _ rfl
     show OpOK _ _ _ _ _ _ _
     exact ok_pure (ro_fieldAddr SufPiece_f124_0 rfl) rfl
   refine ⟨?_, ?_⟩
   · intro w7 D7
     rintro _ rfl
     show OpOK _ _ _ _ _ _ _
     exact ok_pure (ro_load SufPiece_g81 rfl (by exact cellF (From.rfl_.next D7) (hb.rd 0 rfl))) rfl
   refine ⟨?_, ?_⟩
   · intro w8 D8
     show OpOK _ _ _ _ _ _ _
     exact ok_pure (ro_move (v := .pointer _) rfl) rfl
   refine ⟨?_, ?_⟩
   · intro w9 D9
     rintro _ rfl
     show OpOK _ _ _ _ _ _ _
     exact ok_pure (ro_nilCheck rfl) rfl
   refine ⟨?_, ?_⟩
   · intro w10 D10
     rintro _ rfl
     show OpOK _ _ _ _ _ _ _
     exact ok_pure (ro_fieldAddr SufPiece_f124_3 rfl) rfl
   refine ⟨?_, ?_⟩
   · intro w11 D11
     rintro _ rfl
     show OpOK _ _ _ _ _ _ _
     exact ok_pure (ro_load SufPiece_g81 rfl (by exact cellF (From.rfl_.next D11) (hb.rd 3 rfl))) rfl
   refine ⟨?_, ?_⟩
   · intro w12 D12
     show OpOK _ _ _ _ _ _ _
     exact ok_pure (ro_move (v := .int _ _) rfl) rfl
   refine ⟨?_, ?_⟩
   · intro w13 D13
     rintro _ rfl _ rfl
     show OpOK _ _ _ _ _ _ _
     exact ok_pure (ro_indexAddr1 SufPiece_e81 rfl rfl (by exact hx)) rfl
   refine ⟨?_, ?_⟩
   · intro w14 D14
     rintro _ rfl
     show OpOK _ _ _ _ _ _ _
     exact ok_pure (ro_load SufPiece_g21 rfl (by exact cellF (From.rfl_.next D14) (hsc x hx))) rfl
   refine ⟨?_, ?_⟩
   · intro w15 D15
     show OpOK _ _ _ _ _ _ _
     exact ok_pure (ro_move (v := .pointer _) rfl) rfl
   refine ⟨?_, ?_⟩
   · intro w16 D16
     rintro _ rfl
     show OpOK _ _ _ _ _ _ _
     exact ok_pure (ro_nilCheck rfl) rfl
   refine ⟨?_, ?_⟩
   · intro w17 D17
     rintro _ rfl
     show OpOK _ _ _ _ _ _ _
     exact ok_pure (ro_fieldAddr SufPiece_f124_3 rfl) rfl
   refine ⟨?_, ?_⟩
   · intro w18 D18
     rintro _ rfl
     show OpOK _ _ _ _ _ _ _
     exact ok_pure (ro_load SufPiece_g81 rfl (by exact cellF (From.rfl_.next D18) (hb.rd 3 rfl))) rfl
   refine ⟨?_, ?_⟩
   · intro w19 D19
     show OpOK _ _ _ _ _ _ _
     exact ok_pure (ro_move (v := .int _ _) rfl) rfl
   refine ⟨?_, ?_⟩
   · intro w20 D20
     rintro _ rfl
     show OpOK _ _ _ _ _ _ _
     exact ok_pure (ro_add32 (r := ((x + 1 : Nat) : Int)) rfl rfl (by omega) (by omega)) rfl
   refine ⟨?_, ?_⟩
   · intro w21 D21
     rintro _ rfl _ rfl
     show OpOK _ _ _ _ _ _ _
     exact ok_pure (ro_indexAddr1 SufPiece_e81 rfl rfl (by exact hx1)) rfl
   refine ⟨?_, ?_⟩
   · intro w22 D22
     rintro _ rfl
     show OpOK _ _ _ _ _ _ _
     exact ok_pure (ro_load SufPiece_g21 rfl (by exact cellF (From.rfl_.next D22) (hsc (x + 1) hx1))) rfl
   refine ⟨?_, ?_⟩
   · intro w23 D23
     rintro _ rfl
     show OpOK _ _ _ _ _ _ _
     exact ok_pure (ro_add32 (r := ((ss (x + 1) + 1 : Nat) : Int)) rfl rfl (by omega) (by omega)) rfl
   refine ⟨?_, ?_⟩
   · intro w24 D24
     rintro _ rfl _ rfl _ rfl
     show OpOK _ _ _ _ _ _ _
     exact ok_pure (ro_sliceO (l := ss x) (h := ss (x + 1) + 1) SufPiece_e81 rfl (.inr ⟨_, _, _, rfl, rfl, rfl⟩) (.inr ⟨_, _, _, rfl, rfl, rfl⟩) (by omega) (by omega)) rfl
   refine ⟨?_, ?_⟩
   · intro w25 D25
     show OpOK _ _ _ _ _ _ _
     exact ok_pure (ro_move (v := .pointer _) rfl) rfl
   refine ⟨?_, ?_⟩
   · intro w26 D26
     rintro _ rfl
     show OpOK _ _ _ _ _ _ _
     exact ok_pure (ro_nilCheck rfl) rfl
   refine ⟨?_, ?_⟩
   · intro w27 D27
     rintro _ rfl
     show OpOK _ _ _ _ _ _ _
     exact ok_pure (ro_fieldAddr SufPiece_f124_0 rfl) rfl
   refine ⟨?_, ?_⟩
   · intro w28 D28
     rintro _ rfl
     show OpOK _ _ _ _ _ _ _
     exact ok_pure (ro_load SufPiece_g81 rfl (by exact cellF (From.rfl_.next D28) (hb.rd 0 rfl))) rfl
   refine ⟨?_, ?_⟩
   · intro w29 D29
     show OpOK _ _ _ _ _ _ _
     exact ok_pure (ro_move (v := .pointer _) rfl) rfl
   refine ⟨?_, ?_⟩
   · intro w30 D30
     rintro _ rfl
     show OpOK _ _ _ _ _ _ _
     exact ok_pure (ro_nilCheck rfl) rfl
   refine ⟨?_, ?_⟩
   · intro w31 D31
     rintro _ rfl
     show OpOK _ _ _ _ _ _ _
     exact ok_pure (ro_fieldAddr SufPiece_f124_3 rfl) rfl
   refine ⟨?_, ?_⟩
   · intro w32 D32
     rintro _ rfl
     show OpOK _ _ _ _ _ _ _
     exact ok_pure (ro_load SufPiece_g81 rfl (by exact cellF (From.rfl_.next D32) (hb.rd 3 rfl))) rfl
   refine ⟨?_, ?_⟩
   · intro w33 D33
     show OpOK _ _ _ _ _ _ _
     exact ok_pure (ro_move (v := .int _ _) rfl) rfl
   refine ⟨?_, ?_⟩
   · intro w34 D34
     rintro _ rfl _ rfl
     show OpOK _ _ _ _ _ _ _
     exact ok_pure (ro_indexAddr1 SufPiece_e81 rfl rfl (by exact hy)) rfl
   refine ⟨?_, ?_⟩
   · intro w35 D35
     rintro _ rfl
     show OpOK _ _ _ _ _ _ _
     exact ok_pure (ro_load SufPiece_g21 rfl (by exact cellF (From.rfl_.next D35) (hsc y hy))) rfl
   refine ⟨?_, ?_⟩
   · intro w36 D36
     show OpOK _ _ _ _ _ _ _
     exact ok_pure (ro_move (v := .pointer _) rfl) rfl
   refine ⟨?_, ?_⟩
   · intro w37 D37
     rintro _ rfl
     show OpOK _ _ _ _ _ _ _
     exact ok_pure (ro_nilCheck rfl) rfl
   refine ⟨?_, ?_⟩
   · intro w38 D38
     rintro _ rfl
     show OpOK _ _ _ _ _ _ _
     exact ok_pure (ro_fieldAddr SufPiece_f124_3 rfl) rfl
   refine ⟨?_, ?_⟩
   · intro w39 D39
     rintro _ rfl
     show OpOK _ _ _ _ _ _ _
     exact ok_pure (ro_load SufPiece_g81 rfl (by exact cellF (From.rfl_.next D39) (hb.rd 3 rfl))) rfl
   refine ⟨?_, ?_⟩
   · intro w40 D40
     show OpOK _ _ _ _ _ _ _
     exact ok_pure (ro_move (v := .int _ _) rfl) rfl
   refine ⟨?_, ?_⟩
   · intro w41 D41
     rintro _ rfl
     show OpOK _ _ _ _ _ _ _
     exact ok_pure (ro_add32 (r := ((y + 1 : Nat) : Int)) rfl rfl (by omega) (by omega)) rfl
   refine ⟨?_, ?_⟩
   · intro w42 D42
     rintro _ rfl _ rfl
     show OpOK _ _ _ _ _ _ _
     exact ok_pure (ro_indexAddr1 SufPiece_e81 rfl rfl (by exact hy1)) rfl
   refine ⟨?_, ?_⟩
   · intro w43 D43
     rintro _ rfl
     show OpOK _ _ _ _ _ _ _
     exact ok_pure (ro_load SufPiece_g21 rfl (by exact cellF (From.rfl_.next D43) (hsc (y + 1) hy1))) rfl
   refine ⟨?_, ?_⟩
   · intro w44 D44
     rintro _ rfl
     show OpOK _ _ _ _ _ _ _
     exact ok_pure (ro_add32 (r := ((ss (y + 1) + 1 : Nat) : Int)) rfl rfl (by omega) (by omega)) rfl
   refine ⟨?_, ?_⟩
   · intro w45 D45
     rintro _ rfl _ rfl _ rfl
     show OpOK _ _ _ _ _ _ _
     exact ok_pure (ro_sliceO (l := ss y) (h := ss (y + 1) + 1) SufPiece_e81 rfl (.inr ⟨_, _, _, rfl, rfl, rfl⟩) (.inr ⟨_, _, _, rfl, rfl, rfl⟩) (by omega) (by omega)) rfl
   refine ⟨?_, ?_⟩
   · intro w46 D46
     rintro _ rfl _ rfl
     show OpOK _ _ _ _ _ _ _
     refine ok_call SufPiece_k55 ((equal32_rt _ _ _ _ _ _ (segL t (ss x) (ss (x + 1) + 1 - ss x)) (segL t (ss y) (ss (y + 1) + 1 - ss y)) _ (text_seg (hl.from_ (From.rfl_.next D46)) (by omega) (by omega)) (text_seg (hl.from_ (From.rfl_.next D46)) (by omega) (by omega)) segL_len.symm segL_len.symm (by omega)).mono ?_)
     rintro v _ ⟨rfl, E46'⟩; exact ⟨E46', rfl⟩
   refine ⟨?_, ?_⟩
   · intro w47 D47
     rintro _ rfl
     show OpOK _ _ _ _ _ _ _
     exact ok_pure (ro_assign (v := .bool _) rfl) rfl
   exact trivial
  case hend =>
   intro w48 D48
   rintro _ rfl _ rfl _ rfl _ rfl _ rfl _ rfl _ rfl _ rfl _ rfl _ rfl _ rfl _ rfl _ rfl _ rfl _ rfl _ rfl _ rfl _ rfl _ rfl _ rfl _ rfl _ rfl _ rfl _ rfl _ rfl _ rfl _ rfl _ rfl _ rfl _ rfl _ rfl _ rfl _ rfl _ rfl _ rfl _ rfl _ rfl _ rfl _ rfl _ rfl _ rfl _ rfl _ rfl _ rfl
   show St _ _ _ _ _ _ _
   refine st_nil (nx_then (cd_ret ?_))
   refine res1 (v := .bool _) rfl rfl ?_
   refine ⟨⟨_, rfl, ?_⟩, (From.rfl_.next D48)⟩
   rw [decide_eq_true_iff]
   exact same_seg H ht hx1 hy1
end Go.Proofs.YtglndihdhaaccaaDoor

namespace Go.Proofs.YtglndihdhaaccaaDoor
open Go.RowKit
open Go.ChangeShapes Go.WideShapes Go.ChangeAt
open Go.Proofs.YtglndihdhaaccaaDoor.SA
theorem SufName_e81 : elemQ Tryd.prog 81 = some (21, 1) := by kernel_rfl
theorem SufName_m81 : makeQ Tryd.prog 81 = some (21, 4, (.int .i32 0)) := by kernel_rfl
theorem SufName_q81 : litQ Tryd.prog 81 = some (21, 1, 4, (.int .i32 0)) := by kernel_rfl
theorem SufName_s3 : (Tryd.prog.underlying 3).isSome = true := by kernel_rfl
theorem SufName_i21 : Tryd.prog.underlying 21 = some (.int .i32) := by kernel_rfl
theorem SufName_f124_0 : fieldQ Tryd.prog 124 0 = some 0 := by kernel_rfl
theorem SufName_g81 : aggQ Tryd.prog 81 = some false := by kernel_rfl
theorem SufName_l81 : (elemQ Tryd.prog 81).isSome = true := by kernel_rfl
theorem SufName_f124_3 : fieldQ Tryd.prog 124 3 = some 3 := by kernel_rfl
theorem SufName_g21 : aggQ Tryd.prog 21 = some false := by kernel_rfl
theorem SufName_z21 : sizeQ Tryd.prog 21 = some 1 := by kernel_rfl
theorem SufName_k47 : callable Tryd.prog 47 = true := by kernel_rfl
theorem SufName_k51 : callable Tryd.prog 51 = true := by kernel_rfl
section
variable {n m : Nat} {t ss : Nat → Nat}
open Classical in
noncomputable def idxS (m : Nat) (ss : Nat → Nat) (s : Nat) : Nat := if h : ∃ k, k < m ∧ ss k = s then Classical.choose h else 0
theorem idx_at (H : Starts n t m ss) {k : Nat} (hk : k < m) : idxS m ss (ss k) = k := by
  have h : ∃ j, j < m ∧ ss j = ss k := ⟨k, hk, rfl⟩
  unfold idxS
  rw [dif_pos h]
  have := Classical.choose_spec h
  exact H.inj this.1 hk this.2
theorem idx_lt (H : Starts n t m ss) : ∀ s, lms n t s → idxS m ss s < m := fun s hs => by
  obtain ⟨k, hk, rfl⟩ := H.all s hs
  rw [idx_at H hk]
  exact hk
theorem idx_ord (H : Starts n t m ss) : Ord n t (idxS m ss) := ⟨fun i j hi hj he => by
  obtain ⟨a, ha, rfl⟩ := H.all i hi
  obtain ⟨b, hb, rfl⟩ := H.all j hj
  rw [idx_at H ha, idx_at H hb] at he
  rw [he]⟩
/-- the starts' numbers, as far as they are written -/
structure Numb (n m : Nat) (ss : Nat → Nat) (k : Nat) (num : Nat → Int) : Prop where
  is : ∀ j, j < k → num (ss j) = ((j + 1 : Nat) : Int)
  no : ∀ i, (∀ j, j < k → ss j ≠ i) → num i = 0
theorem Numb.put (H : Starts n t m ss) {k : Nat} {num : Nat → Int} (h : Numb n m ss k num) (hk : k < m) : Numb n m ss (k + 1) (upd num (ss k) ((k + 1 : Nat) : Int)) := by
  refine ⟨fun j hj => ?_, fun i hi => ?_⟩
  · by_cases e : j = k
    · subst e; rw [upd_same]
    · rw [upd_ne _ _ (fun e2 => e (H.inj (by omega) hk e2))]
      exact h.is j (by omega)
  · rw [upd_ne _ _ (fun e => hi k (by omega) e.symm)]
    exact h.no i fun j hj => hi j (by omega)
theorem Numb.start {num : Nat → Int} (h : Numb n m ss m num) {i : Nat} (hi : num i ≠ 0) : ∃ s, s < m ∧ ss s = i ∧ num i = ((s + 1 : Nat) : Int) := by
  by_cases e : ∃ s, s < m ∧ ss s = i
  · obtain ⟨s, hs, rfl⟩ := e
    exact ⟨s, hs, rfl, h.is s hs⟩
  · exact absurd (h.no i fun j hj he => e ⟨j, hj, he⟩) hi
/-- the starts of the first rows, in order -/
structure Rowed (n : Nat) (t idx : Nat → Nat) (r : Nat) (ol : List Nat) : Prop where
  mem : ∀ s, s ∈ ol ↔ lms n t s ∧ pos n t idx s < r
  up : ol.Pairwise fun a b => pos n t idx a < pos n t idx b
variable {idx : Nat → Nat} {r : Nat} {ol : List Nat}
theorem Rowed.skip (h : Rowed n t idx r ol) (hno : ∀ s, lms n t s → pos n t idx s ≠ r) : Rowed n t idx (r + 1) ol :=
  ⟨fun s => by
    rw [h.mem]
    exact ⟨fun a => ⟨a.1, by omega⟩, fun a => ⟨a.1, by have := hno s a.1; omega⟩⟩, h.up⟩
theorem Rowed.put (ht : Txt n t) (ho : Ord n t idx) (h : Rowed n t idx r ol) {i : Nat} (hi : lms n t i) (hp : pos n t idx i = r) : Rowed n t idx (r + 1) (ol ++ [i]) := by
  refine ⟨fun s => ?_, ?_⟩
  · rw [List.mem_append, h.mem, List.mem_singleton]
    constructor
    · rintro (a | rfl)
      · exact ⟨a.1, by omega⟩
      · exact ⟨hi, by omega⟩
    · rintro ⟨a, b⟩
      by_cases e : pos n t idx s = r
      · exact .inr (pos_inj ht ho a.2.1 hi.2.1 (by rw [e, hp]))
      · exact .inl ⟨a, by omega⟩
  · rw [List.pairwise_append]
    refine ⟨h.up, List.pairwise_singleton .., fun a ha b hb => ?_⟩
    rw [List.mem_singleton] at hb
    subst hb
    have := (h.mem a).1 ha
    omega
theorem Rowed.len_le (h : Rowed n t idx r ol) : ol.length ≤ r := by
  have : ∀ (l : List Nat) (q : Nat), (∀ s ∈ l, pos n t idx s < r ∧ q ≤ pos n t idx s) → l.Pairwise (fun a b => pos n t idx a < pos n t idx b) → l.length + q ≤ r ∨ l = [] := by
    intro l
    induction l with
    | nil => intro q _ _; exact .inr rfl
    | cons a l ih =>
      intro q hq hp
      rw [List.pairwise_cons] at hp
      have h1 := hq a (List.mem_cons_self ..)
      rcases ih (pos n t idx a + 1) (fun s hs => ⟨(hq s (List.mem_cons_of_mem _ hs)).1, by have := hp.1 s hs; omega⟩) hp.2 with e | e
      · left; simp only [List.length_cons]; omega
      · subst e; left; simp; omega
  rcases this ol 0 (fun s hs => ⟨((h.mem s).1 hs).2, Nat.zero_le _⟩) h.up with e | e
  · omega
  · rw [e]; simp
/-- what is known of the last one -/
def Lst (n : Nat) (t idx : Nat → Nat) (m : Nat) (ss : Nat → Nat) (r : Nat) (nm : Nat → Nat) (kinds : Nat) (last : Int) : Prop :=
  (last = -1 ∧ ∀ a, a < m → r ≤ pos n t idx (ss a)) ∨ ∃ b : Nat, last = b ∧ LastN n t idx m ss r nm kinds b
def Nxt (n : Nat) (t idx : Nat → Nat) (m : Nat) (ss : Nat → Nat) (r : Nat) (nm : Nat → Nat) (kinds s kinds2 : Nat) : Prop :=
  (kinds2 = 0 ∧ ∀ a, a < m → r ≤ pos n t idx (ss a)) ∨ ∃ b, LastN n t idx m ss r nm kinds b ∧ ((piece n t (ss b) = piece n t (ss s) ∧ kinds2 = kinds) ∨ (piece n t (ss b) ≠ piece n t (ss s) ∧ kinds2 = kinds + 1))
theorem updN_row {s v k : Nat} {nm : Nat → Nat} : upd (fun k => ((nm k : Nat) : Int)) s ((v : Nat) : Int) k = ((updN nm s v k : Nat) : Int) := by
  unfold upd updN
  split <;> rfl
end
set_option maxHeartbeats 4000000 in
theorem names_rt (b n K m : Nat) (t ss : Nat → Nat) (w : World) (hT : TextAt w b n K t m ss) (h0 : 0 < m) (hm : m ≤ 200000) (hn : n ≤ 200000) (hK : K ≤ 200000) (H : Starts n t m ss) (h2 : 2 ≤ n) (ht : Txt n t) (hkt : ∀ i, i < n → t i < K) :
    Rt Tryd.prog 46 [.pointer (some ⟨b, 0, none⟩)] w (fun v w' => (∃ idx ol Ao co g nm kinds, v = .tuple #[.slice Ao ol.length co, .slice (some ⟨g, 0, none⟩) m m, .int .i64 ((kinds + 1 : Nat) : Int)] ∧ RowOf jV w' Ao (ol.map fun x : Nat => (x : Int)) ∧ w.heap.size ≤ g ∧ VJ w' g m (fun k => ((nm k : Nat) : Int)) ∧ InvN n t idx m ss n nm kinds ∧ Ord n t idx ∧ Rowed n t idx n ol ∧ kinds ≤ n) ∧ From w w') := by
  have hT0 := hT
  obtain ⟨gl, gr, AS, cs, ge, hb, hl, hr, hss, he⟩ := hT
  obtain ⟨bs, oS, rfl, hsc⟩ := text_ss hss h0
  refine enter (n := 88) Tryd.func46 rfl rfl rfl ?_
  refine cd_seq (cd_region ?_)
  refine ass rfl ?_
  refine ass rfl ?_
  refine asi rfl ?_
  refine st_nil (nx_then (cd_seq (cd_region ?_)))
  refine mvp rfl ?_
  refine st_val (ro_nilCheck rfl) ?_
  refine st_val (ro_fieldAddr SufName_f124_0 rfl) ?_
  refine st_val (ro_load SufName_g81 rfl (by exact cellF From.rfl_ (hb.rd 0 rfl))) ?_
  refine st_val (ro_len SufName_l81 rfl) ?_
  refine st_make SufName_m81 rfl rfl rfl (by omega) (by omega) ?_
  intro b17 w1 E17 hb17 hk17
  have hg17 : w.heap.size ≤ b17 := by rw [hb17]; exact (From.rfl_).size
  refine ass rfl ?_
  refine st_nil (nx_then (cd_seq (cd_seq (cd_region ?_))))
  refine mvp rfl ?_
  refine st_val (ro_nilCheck rfl) ?_
  refine st_val (ro_fieldAddr SufName_f124_3 rfl) ?_
  refine st_val (ro_load SufName_g81 rfl (by exact cellF (From.rfl_.next E17) (hb.rd 3 rfl))) ?_
  refine st_val (ro_len SufName_l81 rfl) ?_
  refine mvi rfl ?_
  refine st_nil (nx_then (cd_block ?_))
  refine cd_loop (G := Nat × (Nat → Int)) [6, 7, 24, 25, 26, 27, 28, 29, 30, 31, 32, 33, 34] (fun (k, _) => [(23, .int .i64 (k : Nat))]) (fun (k, num) w' => k ≤ m ∧ Numb n m ss k num ∧ VJ w' b17 n num ∧ From w w') (fun (k, _) => m - k) ((0, fun _ => 0)) ⟨rfl, trivial⟩ ?_ ?_
  · exact ⟨Nat.zero_le _, ⟨fun j h => absurd h (by omega), fun _ _ => rfl⟩, VJ.of_blk (by rw [← tabJ_zero]; exact hk17), (From.rfl_.next E17)⟩
  rintro ⟨k, num⟩ ρ2 w2 ⟨hk, hnum, hnb, hB⟩
  refine cd_seq (cd_region ?_)
  refine st_val (ro_lss rfl rfl) ?_
  refine st_nil (nx_then (cd_seq ?_))
  refine cd_cond rfl (fun Q3 => ?_) (fun Q3 => ?_)
  · with_reducible replace Q3 := of_decide_eq_true Q3
    have hkm : k < m := by omega
    obtain ⟨cu, hcu, hsz, hce⟩ := id hnb
    refine cd_skip (nx_then (cd_seq (cd_block (cd_seq (cd_region ?_)))))
    refine mvi rfl ?_
    refine st_val (ro_indexAddr1 SufName_e81 rfl rfl (by exact hkm)) ?_
    refine st_val (ro_load SufName_g21 rfl (by exact cellF hB (hsc k hkm))) ?_
    refine asi rfl ?_
    refine asi rfl ?_
    refine st_nil (nx_then (cd_region ?_))
    refine mvs rfl ?_
    refine mvi rfl ?_
    refine mvi rfl ?_
    refine st_val (ro_conv32 SufName_s3 SufName_i21 rfl (by omega)) ?_
    refine st_val (ro_add32 (r := ((k + 1 : Nat) : Int)) rfl rfl (by omega) (by omega)) ?_
    refine st_val (ro_indexAddr0 SufName_e81 rfl rfl (by exact (H.is k hkm).2.1)) ?_
    refine st_put (v := .int _ _) SufName_z21 rfl rfl rfl (hcu) (by have := (H.is k hkm).2.1; omega) ?_
    intro w4 O5 P5
    have hnb5 := VJ.put P5 hsz hce (H.is k hkm).2.1
    refine st_nil (nx_block (nx_then (cd_region ?_)))
    refine st_val (ro_addN (b := 1) rfl rfl (by omega)) ?_
    refine mvi rfl ?_
    refine st_nil ?_
    refine nx_cut ((k + 1, upd num (ss k) ((k + 1 : Nat) : Int))) ⟨(by first | rfl | (refine int_eq ?_; omega)), trivial⟩ (by (iterate 28 refine agr_cons rfl ?_); exact agr_rfl) ⟨?_, ?_⟩
    · exact ⟨by omega, hnum.put H hkm, hnb5, (hB.only O5 (hg17))⟩
    · show m - (k + 1) < m - k; omega
  with_reducible replace Q3 := of_decide_eq_false Q3
  refine cd_exit ?_
  refine ex_then (ex_then (ex_block (nx_then (cd_seq (cd_region ?_)))))
  refine mvp rfl ?_
  refine st_val (ro_nilCheck rfl) ?_
  refine st_val (ro_fieldAddr SufName_f124_3 rfl) ?_
  refine st_val (ro_load SufName_g81 rfl (by exact cellF hB (hb.rd 3 rfl))) ?_
  refine st_val (ro_len SufName_l81 rfl) ?_
  refine st_make SufName_m81 rfl rfl rfl (by omega) (by omega) ?_
  intro b40 w5 E40 hb40 hk40
  have hg40 : w.heap.size ≤ b40 := by rw [hb40]; exact (hB).size
  have h1740 : b17 < b40 := by rw [hb40]; exact hnb.lt
  have hnm0 : VJ w5 b40 m (fun _ => 0) := VJ.of_blk (by rw [tabJ_zero] at hk40; exact hk40)
  refine ass rfl ?_
  refine st_nil (nx_then (cd_seq (cd_region ?_)))
  refine asi rfl ?_
  refine st_nil (nx_then (cd_seq (cd_seq (cd_region ?_))))
  refine mvp rfl ?_
  refine mvp rfl ?_
  refine st_val (ro_nilCheck rfl) ?_
  refine st_val (ro_fieldAddr SufName_f124_3 rfl) ?_
  refine st_val (ro_load SufName_g81 rfl (by exact cellF (hB.next E40) (hb.rd 3 rfl))) ?_
  refine st_call SufName_k47 (induce_rt b n K m t ss _ (hT0.from_ (hB.next E40)) h2 ht hkt hn hK bs oS m cs ss (idxS m ss) (fun q hq => cellF (hB.next E40) (hsc q hq)) (fun q hq => ⟨H.is q hq, idx_at H hq⟩) (idx_lt H) (idx_ord H) hm) ?_
  rintro v46 w6 ⟨⟨gI, xs, rfl, hgI, hxs, hxp⟩, E46⟩
  obtain ⟨z, hz⟩ : ∃ z, z = (w6).heap.size := ⟨_, rfl⟩
  have hIz : gI < z := by rw [hz]; exact hxs.lt
  have h40I : b40 < gI := Nat.lt_of_lt_of_le hk40.lt hgI
  have hwz : w.heap.size ≤ z := by omega
  obtain rfl : m = k := by omega
  refine st_val (ro_len SufName_l81 rfl) ?_
  refine mvi rfl ?_
  refine st_nil (nx_then (cd_block ?_))
  refine cd_loop (G := Nat × List Nat × Option Addr × Nat × (Nat → Nat) × Nat × Int) [10, 11, 49, 50, 51, 52, 53, 54, 55, 56, 57, 58, 59, 60, 61, 62, 63, 64, 65, 66, 67, 68, 69, 70, 71, 72, 73, 74, 75, 76, 77, 78, 79, 80, 81, 82, 83] (fun (r, ol, A2, c2, _, kinds, last) => [(48, .int .i64 (r : Nat)), (2, .slice A2 ol.length c2), (4, .int .i64 (kinds : Nat)), (8, .int .i32 last)]) (fun (r, ol, A2, c2, nm, kinds, last) w' => r ≤ n ∧ InvN n t (idxS m ss) m ss (r) nm kinds ∧ Lst n t (idxS m ss) m ss (r) nm kinds last ∧ Rowed n t (idxS m ss) (r) ol ∧ kinds ≤ r ∧ w'.ownsRow z 21 1 (.slice A2 ol.length c2) ol.length (ol.map fun x : Nat => jV (x : Nat)) ∧ VJ w' b40 m (fun k => ((nm k : Nat) : Int)) ∧ VJ w' b17 n num ∧ VJ w' gI n xs ∧ z ≤ w'.heap.size ∧ From w w') (fun (r, _) => n - r) ((0, [], none, 0, fun _ => 0, 0, -1)) ⟨rfl, rfl, rfl, rfl, trivial⟩ ?_ ?_
  · refine ⟨Nat.zero_le _, invN_start, .inl ⟨rfl, fun _ _ => Nat.zero_le _⟩, ⟨fun s => ⟨fun h => (by cases h), fun h => absurd h.2 (by omega)⟩, List.Pairwise.nil⟩, Nat.le_refl _, World.ownsRow_nil _ _ _ _, (hnm0.from_ E46).congr (fun _ _ => rfl), hnb.from_ ((From.rfl_.next E40).next E46), hxs.from_ From.rfl_, by rw [hz]; exact Nat.le_refl _, ((hB.next E40).next E46)⟩
  rintro ⟨r, ol, A2, c2, nm, kinds, last⟩ ρ7 w7 ⟨hr0, hI, hlast, hol, hkr, ho, hnm, hnb, hxs, hzs, hB⟩
  refine cd_seq (cd_region ?_)
  refine st_val (ro_lss rfl rfl) ?_
  refine st_nil (nx_then (cd_seq ?_))
  refine cd_cond rfl (fun Q8 => ?_) (fun Q8 => ?_)
  · with_reducible replace Q8 := of_decide_eq_true Q8
    have hrn : r < n := by omega
    obtain ⟨i, hin, hir⟩ := pos_surj ht (idx_ord H) hrn
    have hcx : (w7).cell? ⟨gI, r, none⟩ = some (.int .i32 ((i : Nat) : Int)) := by rw [hxs.rd hrn, ← hir, hxp i hin]
    refine cd_skip (nx_then ?_)
    refine cd_cut (G := List Nat × Option Addr × Nat × (Nat → Nat) × Nat × Int) [10, 11, 50, 51, 52, 53, 54, 55, 56, 57, 58, 59, 60, 61, 62, 63, 64, 65, 66, 67, 68, 69, 70, 71, 72, 73, 74, 75, 76, 77, 78, 79, 80, 81, 82] (fun (ol, A2, c2, _, kinds, last) => [(2, .slice A2 ol.length c2), (4, .int .i64 (kinds : Nat)), (8, .int .i32 last)]) (fun (ol, A2, c2, nm, kinds, last) w' => InvN n t (idxS m ss) m ss (r + 1) nm kinds ∧ Lst n t (idxS m ss) m ss (r + 1) nm kinds last ∧ Rowed n t (idxS m ss) (r + 1) ol ∧ kinds ≤ r + 1 ∧ w'.ownsRow z 21 1 (.slice A2 ol.length c2) ol.length (ol.map fun x : Nat => jV (x : Nat)) ∧ VJ w' b40 m (fun k => ((nm k : Nat) : Int)) ∧ VJ w' b17 n num ∧ VJ w' gI n xs ∧ z ≤ w'.heap.size ∧ From w w') ?_ ?_
    · refine cd_block (cd_seq (cd_region ?_))
      refine st_val (ro_indexAddr0 SufName_e81 rfl rfl (by exact hrn)) ?_
      refine st_val (ro_load SufName_g21 rfl (by exact cellF From.rfl_ hcx)) ?_
      refine asi rfl ?_
      refine st_nil (nx_then (cd_seq (cd_seq (cd_region ?_))))
      refine mvs rfl ?_
      refine mvi rfl ?_
      refine st_val (ro_indexAddr0 SufName_e81 rfl rfl (by exact hin)) ?_
      refine st_val (ro_load SufName_g21 rfl (by exact (hnb.from_ From.rfl_).rd hin)) ?_
      refine st_val (ro_eql rfl rfl) ?_
      refine st_nil (nx_then ?_)
      refine cd_cond rfl (fun Q9 => ?_) (fun Q9 => ?_)
      · with_reducible replace Q9 := of_decide_eq_true Q9
        have hn0 : num i = 0 := by omega
        refine cd_exit ?_
        refine ex_then (ex_block ?_)
        refine nx_cut ((ol, A2, c2, nm, kinds, last)) ⟨rfl, rfl, rfl, trivial⟩ (by (iterate 8 refine agr_cons rfl ?_); exact agr_rfl) ?_
        have hno : ∀ s, lms n t s → pos n t (idxS m ss) s ≠ r := fun s hs he => by
          obtain ⟨a, ha, rfl⟩ := H.all s hs
          have := pos_inj ht (idx_ord H) hs.2.1 hin (by rw [he, hir])
          have e2 := hnum.is a ha
          rw [this] at e2
          omega
        obtain ⟨s1, s2⟩ := invN_skip hI fun a ha => hno _ (H.is a ha)
        exact ⟨s1, hlast.elim (fun a => .inl ⟨a.1, fun q hq => by have := a.2 q hq; have := hno _ (H.is q hq); omega⟩) (fun ⟨bb, x, y⟩ => .inr ⟨bb, x, s2 bb y⟩), hol.skip hno, by omega, ho.kept_from From.rfl_, hnm.from_ From.rfl_, hnb.from_ From.rfl_, hxs.from_ From.rfl_, Nat.le_trans hzs (From.rfl_).size, hB⟩
      with_reducible replace Q9 := of_decide_eq_false Q9
      obtain ⟨s, hs, hsi, hns⟩ := hnum.start (i := i) (by omega)
      have hls : lms n t i := by rw [← hsi]; exact H.is s hs
      have hcs : (w7).cell? ⟨b17, i, none⟩ = some (.int .i32 ((s + 1 : Nat) : Int)) := by rw [hnb.rd hin, hns]
      refine cd_skip (nx_then (cd_seq (cd_region ?_)))
      refine mvs rfl ?_
      refine mvi rfl ?_
      refine st_val (ro_indexAddr0 SufName_e81 rfl rfl (by exact hin)) ?_
      refine st_val (ro_load SufName_g21 rfl (by exact cellF From.rfl_ hcs)) ?_
      refine st_val (ro_sub32 (r := ((s : Nat) : Int)) rfl rfl (by omega) (by omega)) ?_
      refine asi rfl ?_
      refine st_nil (nx_then ?_)
      refine cd_cut (G := Nat) [62, 63, 64, 65, 66, 67, 68, 69, 70, 71, 72] (fun k2 => [(4, .int .i64 (k2 : Nat))]) (fun k2 w' => Nxt n t (idxS m ss) m ss r nm kinds s k2 ∧ k2 ≤ r + 1 ∧ From w7 w') ?_ ?_
      · refine cd_seq (cd_region ?_)
        refine mvi rfl ?_
        refine st_val (ro_geq rfl rfl) ?_
        refine mvb rfl ?_
        refine st_split (t := 64) rfl (fun Q10 => ?_) (fun Q10 => ?_)
        · with_reducible replace Q10 := of_decide_eq_true Q10
          obtain ⟨bl, rfl, hbl⟩ : ∃ bl : Nat, last = bl ∧ LastN n t (idxS m ss) m ss r nm kinds bl := hlast.elim (fun a => absurd a.1 (by omega)) id
          refine st_unguard rfl ?_
          refine mvp rfl ?_
          refine st_unguard rfl ?_
          refine mvi rfl ?_
          refine st_unguard rfl ?_
          refine mvi rfl ?_
          refine st_unguard rfl ?_
          refine st_call SufName_k51 (same_rt b n K m t ss _ (hT0.from_ hB) h0 hm hn H h2 ht bl s hbl.1 hs) ?_
          rintro v68 w11 ⟨⟨rs, rfl, hrs⟩, E68⟩
          refine st_unguard rfl ?_
          refine st_val (ro_not rfl) ?_
          refine st_val (ro_pickT (v := .bool _) rfl rfl) ?_
          refine st_nil (nx_then ?_)
          refine cd_cond rfl (fun Q12 => ?_) (fun Q12 => ?_)
          · with_reducible replace Q12 := bn_t Q12
            have hkk : Nxt n t (idxS m ss) m ss r nm kinds s (kinds + 1) := .inr ⟨bl, hbl, .inr ⟨fun e => by rw [hrs.2 (by rw [e, hsi])] at Q12; simp at Q12, rfl⟩⟩
            refine cd_region ?_
            refine mvi rfl ?_
            refine st_val (ro_addN (b := 1) rfl rfl (by omega)) ?_
            refine asi rfl ?_
            refine st_nil ?_
            refine nx_cut (kinds + 1) ⟨(by first | rfl | (refine int_eq ?_; omega)), trivial⟩ (by (iterate 13 refine agr_cons rfl ?_); exact agr_rfl) ?_
            exact ⟨hkk, by omega, (From.rfl_.next E68)⟩
          with_reducible replace Q12 := bn_f Q12
          have hkk : Nxt n t (idxS m ss) m ss r nm kinds s kinds := .inr ⟨bl, hbl, .inl ⟨hrs.1 (by simpa using Q12), rfl⟩⟩
          refine cd_skip ?_
          refine nx_cut (kinds) ⟨(by first | rfl | (refine int_eq ?_; omega)), trivial⟩ (by (iterate 10 refine agr_cons rfl ?_); exact agr_rfl) ?_
          exact ⟨hkk, by omega, (From.rfl_.next E68)⟩
        with_reducible replace Q10 := of_decide_eq_false Q10
        have hkk : Nxt n t (idxS m ss) m ss r nm kinds s kinds := hlast.elim (fun a => .inl ⟨hI.none a.2, a.2⟩) (fun ⟨bb, e, _⟩ => absurd e (by omega))
        refine st_gno rfl rfl ?_
        refine st_gno rfl rfl ?_
        refine st_gno rfl rfl ?_
        refine st_gno rfl rfl ?_
        refine st_gno rfl rfl ?_
        refine st_val (ro_pickF (v := .bool _) rfl rfl) ?_
        refine st_nil (nx_then ?_)
        refine cd_condF rfl ?_
        refine cd_skip ?_
        refine nx_cut (kinds) ⟨(by first | rfl | (refine int_eq ?_; omega)), trivial⟩ (by (iterate 10 refine agr_cons rfl ?_); exact agr_rfl) ?_
        exact ⟨hkk, by omega, From.rfl_⟩
      rintro kinds2 ρ13 w13 ⟨hnx, hk2, hF16⟩
      replace ho := ho.kept_from hF16
      replace hnm := hnm.from_ hF16
      replace hnb := hnb.from_ hF16
      replace hxs := hxs.from_ hF16
      replace hzs := Nat.le_trans hzs hF16.size
      obtain ⟨hIn, hLn⟩ := invN_put ht (idx_ord H) H hI hs (by rw [hsi]; exact hir) hnx
      obtain ⟨cn, hcn, hsz, hce⟩ := id hnm
      refine cd_seq (cd_region ?_)
      refine mvs rfl ?_
      refine mvi rfl ?_
      refine mvi rfl ?_
      refine st_val (ro_conv32 SufName_s3 SufName_i21 rfl (by omega)) ?_
      refine st_val (ro_indexAddr0 SufName_e81 rfl rfl (by exact hs)) ?_
      refine st_put (v := .int _ _) SufName_z21 rfl rfl rfl (hcn) (by omega) ?_
      intro w14 O16 P16
      have hnm16 := (VJ.put P16 hsz hce hs).congr (fun k _ => updN_row)
      refine st_nil (nx_then (cd_seq (cd_region ?_)))
      refine mvs rfl ?_
      refine mvi rfl ?_
      refine st_lit1 (v := .int _ _) SufName_q81 rfl rfl rfl ?_
      intro b80 w15 E80 hb80 hk80
      have hll := hol.len_le
      have ho16 := own_only3 ho O16 (fun k hk => by have := (own_at ho k hk).1; omega)
      refine st_appendB (base := z) SufName_q81 rfl (by decide) rfl (A := A2) (xs := ol.map fun x : Nat => jV (x : Nat)) (news := [jV (i : Nat)]) (ho16.kept_from E80) (Nat.le_trans (by rw [O16.size]; exact hzs) E80.size) rfl rfl (fun _ => ⟨b80, 0, rfl, hk80.whole⟩) (fun h => by cases h) (by simp [Value.oneCell']) (by omega) (by omega) ?_
      intro A81 c81 w16 ho81 hg81
      have HB81 : From w w16 := ((((hB.next hF16).only O16 (hg40)).next E80)).grew hg81 (fun k hk => Nat.le_trans hwz (own_at ho16 k hk).1)
      have hne : ∀ q, A2.map (·.block) = some q → z ≤ q := fun q hq => (own_at ho16 q hq).1
      have hnm17 := (hnm16.from_ E80).grown hg81 (fun q hq => by have := hne q hq; omega)
      have hnb17 := ((hnb.only O16 (by omega)).from_ E80).grown hg81 (fun q hq => by have := hne q hq; omega)
      have hxs17 := ((hxs.only O16 (by omega)).from_ E80).grown hg81 (fun q hq => by have := hne q hq; omega)
      have hzs17 : z ≤ (w16).heap.size := Nat.le_trans (Nat.le_trans (by rw [O16.size]; exact hzs) E80.size) hg81.size
      refine ass rfl ?_
      refine st_nil (nx_then (cd_region ?_))
      refine mvi rfl ?_
      refine asi rfl ?_
      refine st_nil (nx_block ?_)
      refine nx_cut ((ol ++ [i], A81, c81, updN nm s kinds2, kinds2, ((s : Nat) : Int))) ⟨(by show Value.slice A81 (ol.length + 1) c81 = Value.slice A81 (ol ++ [i]).length c81; rw [List.length_append]; rfl), rfl, rfl, trivial⟩ (by (iterate 38 refine agr_cons rfl ?_); exact agr_rfl) ?_
      refine ⟨hIn, .inr ⟨s, rfl, hLn⟩, hol.put ht (idx_ord H) hls hir, by omega, ?_, hnm17, hnb17, hxs17, hzs17, HB81⟩
      rw [List.length_append, List.map_append]
      exact ho81
    rintro ⟨ol', A2', c2', nm', kinds', last'⟩ ρ17 w17 ⟨hI', hlast', hol', hkr', ho', hnm', hnb', hxs', hzs', hB⟩
    refine cd_region ?_
    refine st_val (ro_addN (b := 1) rfl rfl (by omega)) ?_
    refine mvi rfl ?_
    refine st_nil ?_
    refine nx_cut ((r + 1, ol', A2', c2', nm', kinds', last')) ⟨(by first | rfl | (refine int_eq ?_; omega)), (by first | rfl | (refine int_eq ?_; omega)), (by first | rfl | (refine int_eq ?_; omega)), (by first | rfl | (refine int_eq ?_; omega)), trivial⟩ (by (iterate 82 refine agr_cons rfl ?_); exact agr_rfl) ⟨?_, ?_⟩
    · exact ⟨by omega, hI', hlast', hol', hkr', ho'.kept_from From.rfl_, hnm'.from_ From.rfl_, hnb'.from_ From.rfl_, hxs'.from_ From.rfl_, Nat.le_trans hzs' (From.rfl_).size, hB⟩
    · show n - (r + 1) < n - r; omega
  with_reducible replace Q8 := of_decide_eq_false Q8
  refine cd_exit ?_
  refine ex_then (ex_then (ex_block (nx_then (cd_seq (cd_region ?_)))))
  refine mvs rfl ?_
  refine mvs rfl ?_
  refine mvi rfl ?_
  refine st_val (ro_addN (b := 1) rfl rfl (by omega)) ?_
  refine ass rfl ?_
  refine ass rfl ?_
  refine asi rfl ?_
  refine st_nil (nx_then (cd_ret ?_))
  refine res3 (v := .slice _ _ _) (v' := .slice _ _ _) (v'' := .int _ _) rfl rfl rfl rfl ?_
  obtain rfl : r = n := by omega
  exact ⟨⟨idxS m ss, ol, A2, c2, b40, nm, kinds, rfl, (RowOf.own (l := ol.map fun x : Nat => (x : Int)) (by rw [List.map_map]; exact ho.kept_from From.rfl_)).2, hg40, hnm.from_ From.rfl_, hI, idx_ord H, hol, hkr⟩, hB⟩
end Go.Proofs.YtglndihdhaaccaaDoor

namespace Go.Proofs.YtglndihdhaaccaaDoor
open Go.RowKit
open Go.ChangeShapes Go.WideShapes Go.ChangeAt
open Go.Proofs.YtglndihdhaaccaaDoor.SA
abbrev pV (b : Nat) : Value := .pointer (some ⟨b, 0, none⟩)
structure TextOK (W : World) (b n K m : Nat) (t ss : Nat → Nat) : Prop where
  at_ : TextAt W b n K t m ss
  st : Starts n t m ss
  tx : Txt n t
  n2 : 2 ≤ n
  nl : n ≤ 200000
  kl : K ≤ 200000
  kt : ∀ i, i < n → t i < K
inductive Stk (W : World) (n0 : Nat) (t0 : Nat → Nat) : List Nat → Nat → (Nat → Nat) → Prop
  | nil : Stk W n0 t0 [] n0 t0
  | cons {bs : List Nat} {n b K m : Nat} {t ss nm : Nat → Nat} : Stk W n0 t0 bs n t → TextOK W b n K m t ss → (∀ a c, a < m → c < m → (sl m nm a c ↔ sl n t (ss a) (ss c))) → Stk W n0 t0 (bs ++ [b]) m nm
theorem TextOK.from_ {W W' : World} {b n K m : Nat} {t ss : Nat → Nat} (h : TextOK W b n K m t ss) (hF : From W W') : TextOK W' b n K m t ss := ⟨h.at_.from_ hF, h.st, h.tx, h.n2, h.nl, h.kl, h.kt⟩
theorem Stk.from_ {W W' : World} {n0 : Nat} {t0 : Nat → Nat} {bs : List Nat} {n : Nat} {t : Nat → Nat} (h : Stk W n0 t0 bs n t) (hF : From W W') : Stk W' n0 t0 bs n t := by
  induction h with
  | nil => exact .nil
  | cons _ h2 h3 ih => exact .cons ih (h2.from_ hF) h3
section
variable {W W' : World} {base : Nat} {A : Option Addr} {k c : Nat} {ys : List Value}
theorem VJ.off {g K : Nat} {f : Nat → Int} (h : VJ W g K f) (ho : W.ownsRow base 110 1 (.slice A k c) k ys) (hg : W.grownBy W' (A.map (·.block))) : VJ W' g K f := by
  obtain ⟨cur, h1, h2⟩ := h
  exact ⟨cur, h1.grown hg (own_off ho h1 (by decide)), h2⟩
theorem TextAt.off {b n K m : Nat} {t ss : Nat → Nat} (h : TextAt W b n K t m ss) (ho : W.ownsRow base 110 1 (.slice A k c) k ys) (hg : W.grownBy W' (A.map (·.block))) : TextAt W' b n K t m ss := by
  obtain ⟨gl, gr, AS, cs, ge, h1, h2, h3, h4, h5⟩ := h
  exact ⟨gl, gr, AS, cs, ge, h1.grown hg (own_off ho h1 (by decide)), h2.off ho hg, h3.grown hg (own_off ho h3 (by decide)), fun h0 => (let ⟨g, a, b⟩ := h4 h0; ⟨g, a, b.off ho hg⟩), h5.off ho hg⟩
theorem TextOK.off {b n K m : Nat} {t ss : Nat → Nat} (h : TextOK W b n K m t ss) (ho : W.ownsRow base 110 1 (.slice A k c) k ys) (hg : W.grownBy W' (A.map (·.block))) : TextOK W' b n K m t ss := ⟨h.at_.off ho hg, h.st, h.tx, h.n2, h.nl, h.kl, h.kt⟩
theorem Stk.off {n0 : Nat} {t0 : Nat → Nat} {bs : List Nat} {n : Nat} {t : Nat → Nat} (h : Stk W n0 t0 bs n t) (ho : W.ownsRow base 110 1 (.slice A k c) k ys) (hg : W.grownBy W' (A.map (·.block))) : Stk W' n0 t0 bs n t := by
  induction h with
  | nil => exact .nil
  | cons _ h2 h3 ih => exact .cons ih (h2.off ho hg) h3
end
theorem Stk.inv {W : World} {n0 : Nat} {t0 : Nat → Nat} {bs : List Nat} {m : Nat} {nm : Nat → Nat} (h : Stk W n0 t0 bs m nm) (h0 : 0 < bs.length) : ∃ bs0 b n K t ss, bs = bs0 ++ [b] ∧ Stk W n0 t0 bs0 n t ∧ TextOK W b n K m t ss ∧ ∀ a c, a < m → c < m → (sl m nm a c ↔ sl n t (ss a) (ss c)) := by
  cases h with
  | nil => exact absurd h0 (Nat.lt_irrefl 0)
  | cons a b c => exact ⟨_, _, _, _, _, _, rfl, a, b, c⟩
theorem Stk.nil_inv {W : World} {n0 : Nat} {t0 : Nat → Nat} {bs : List Nat} {m : Nat} {nm : Nat → Nat} (h : Stk W n0 t0 bs m nm) (h0 : bs.length = 0) : m = n0 ∧ nm = t0 := by
  cases h with
  | nil => exact ⟨rfl, rfl⟩
  | cons a b c => simp at h0
section
variable {n m : Nat} {t ss idx : Nat → Nat}
theorem kinds_le {nm : Nat → Nat} {kinds : Nat} (H : Starts n t m ss) (h0 : 0 < m) (hI : InvN n t idx m ss n nm kinds) : kinds + 1 ≤ m := by
  rcases Nat.lt_or_ge kinds m with a | a
  · exact a
  · exfalso
    have hs : ∀ c, c ≤ kinds → ∃ a, a < m ∧ nm a = c := fun c hc => by
      obtain ⟨x, x1, _, x3⟩ := hI.some c hc ⟨0, h0, pos_lt (H.is 0 h0).2.1⟩
      exact ⟨x, x1, x3⟩
    let g : Nat → Nat := fun c => if hc : c ≤ kinds then Classical.choose (hs c hc) else 0
    have hg : ∀ c, c ≤ kinds → g c < m ∧ nm (g c) = c := fun c hc => by
      have := Classical.choose_spec (hs c hc)
      show (if hc : c ≤ kinds then Classical.choose (hs c hc) else 0) < m ∧ nm (if hc : c ≤ kinds then Classical.choose (hs c hc) else 0) = c
      rw [dif_pos hc]
      exact this
    obtain ⟨i, hi, e⟩ := surj (n := m + 1) (f := g) (fun i hi => by have := (hg i (by omega)).1; omega) (fun i j hi hj he => by
      have a := (hg i (by omega)).2
      have b := (hg j (by omega)).2
      rw [he] at a
      omega) m (by omega)
    have := (hg i (by omega)).1
    omega
/-- the place in a list -/
noncomputable def plc (ol : List Nat) (s : Nat) : Nat := idxS ol.length (fun q => ol.getD q 0) s
theorem plc_at {ol : List Nat} (hi : ∀ a b, a < ol.length → b < ol.length → ol.getD a 0 = ol.getD b 0 → a = b) {q : Nat} (hq : q < ol.length) : plc ol (ol.getD q 0) = q := by
  have h : ∃ j, j < ol.length ∧ (fun q => ol.getD q 0) j = ol.getD q 0 := ⟨q, hq, rfl⟩
  unfold plc idxS
  rw [dif_pos h]
  have := Classical.choose_spec h
  exact hi _ _ this.1 hq this.2
theorem rowed_at {r : Nat} {ol : List Nat} (h : Rowed n t idx r ol) {a b : Nat} (hab : a < b) (hb : b < ol.length) : pos n t idx (ol.getD a 0) < pos n t idx (ol.getD b 0) := by
  have := List.pairwise_iff_getElem.1 h.up a b (by omega) hb hab
  rw [List.getD_eq_getElem?_getD, List.getD_eq_getElem?_getD, List.getElem?_eq_getElem hb, List.getElem?_eq_getElem (show a < ol.length by omega)]
  exact this
theorem rowed_inj {r : Nat} {ol : List Nat} (h : Rowed n t idx r ol) : ∀ a b, a < ol.length → b < ol.length → ol.getD a 0 = ol.getD b 0 → a = b := fun a b ha hb he => by
  rcases Nat.lt_trichotomy a b with c | c | c
  · have := rowed_at h c hb; rw [he] at this; omega
  · exact c
  · have := rowed_at h c ha; rw [he] at this; omega
theorem getD_mem {ol : List Nat} {q : Nat} (hq : q < ol.length) : ol.getD q 0 ∈ ol := by
  rw [List.getD_eq_getElem?_getD, List.getElem?_eq_getElem hq]
  exact List.getElem_mem hq
theorem mem_getD {ol : List Nat} {s : Nat} (h : s ∈ ol) : ∃ q, q < ol.length ∧ ol.getD q 0 = s := by
  obtain ⟨q, hq, e⟩ := List.getElem_of_mem h
  exact ⟨q, hq, by rw [List.getD_eq_getElem?_getD, List.getElem?_eq_getElem hq]; exact e⟩
theorem ord_of {ol : List Nat} {nm : Nat → Nat} {kinds : Nat} (ht : Txt n t) (ho : Ord n t idx) (H : Starts n t m ss) (hI : InvN n t idx m ss n nm kinds) (hk : kinds + 1 = m) (h : Rowed n t idx n ol) :
    (∀ q, q < ol.length → lms n t (ol.getD q 0) ∧ plc ol (ol.getD q 0) = q) ∧ (∀ s, lms n t s → plc ol s < ol.length) ∧ Ord n t (plc ol) ∧ Sorted n t (plc ol) := by
  have hm : ∀ s, lms n t s → ∃ q, q < ol.length ∧ ol.getD q 0 = s := fun s hs => mem_getD ((h.mem s).2 ⟨hs, pos_lt hs.2.1⟩)
  refine ⟨fun q hq => ⟨((h.mem _).1 (getD_mem hq)).1, plc_at (rowed_inj h) hq⟩, fun s hs => ?_, ⟨fun i j hi hj he => ?_⟩, fun i j hi hj hs => ?_⟩
  · obtain ⟨q, hq, rfl⟩ := hm s hs
    rw [plc_at (rowed_inj h) hq]
    exact hq
  · obtain ⟨p, hp, rfl⟩ := hm i hi
    obtain ⟨q, hq, rfl⟩ := hm j hj
    rw [plc_at (rowed_inj h) hp, plc_at (rowed_inj h) hq] at he
    rw [he]
  · obtain ⟨a, ha, ea⟩ := H.all i hi
    obtain ⟨b, hb, eb⟩ := H.all j hj
    have hp := (names_sorted ht ho H hI hk ha hb).2 (by rw [ea, eb]; exact hs)
    rw [ea, eb] at hp
    obtain ⟨p, hp1, rfl⟩ := hm i hi
    obtain ⟨q, hq, rfl⟩ := hm j hj
    rw [plc_at (rowed_inj h) hp1, plc_at (rowed_inj h) hq]
    rcases Nat.lt_trichotomy p q with c | c | c
    · exact c
    · subst c; omega
    · have := rowed_at h c hp1; omega
/-- the rows of a text -/
def Rws (W : World) (g n : Nat) (t : Nat → Nat) : Prop := ∃ nu : Nat → Nat, VJ W g n (fun r => ((nu r : Nat) : Int)) ∧ (∀ i, i < n → nu (rank n t i) = i) ∧ ∀ r, r < n → nu r < n ∧ rank n t (nu r) = r
theorem rws_of {W : World} {g : Nat} {xs : Nat → Int} (ht : Txt n t) (hso : Sorted n t idx) (hx : VJ W g n xs) (hp : ∀ i, i < n → xs (pos n t idx i) = (i : Nat)) : Rws W g n t := by
  have hs : ∀ r, r < n → ∃ i, i < n ∧ rank n t i = r := surj (fun i hi => rank_lt hi) (fun i j hi hj he => rank_inj ht hi hj he)
  have hr : ∀ i, i < n → xs (rank n t i) = (i : Nat) := fun i hi => by rw [← pos_rank ht hso hi]; exact hp i hi
  refine ⟨fun r => (xs r).toNat, hx.congr fun r hr2 => ?_, fun i hi => ?_, fun r hr2 => ?_⟩
  · obtain ⟨i, hi, rfl⟩ := hs r hr2
    show xs (rank n t i) = ((xs (rank n t i)).toNat : Int)
    rw [hr i hi, Int.toNat_natCast]
  · show (xs (rank n t i)).toNat = i
    rw [hr i hi]
    simp
  · obtain ⟨i, hi, rfl⟩ := hs r hr2
    show (xs (rank n t i)).toNat < n ∧ rank n t (xs (rank n t i)).toNat = rank n t i
    rw [hr i hi]
    simpa using hi
theorem ord_next {n1 : Nat} {t1 nu : Nat → Nat} (ht : Txt n t) (H : Starts n1 t1 n ss) (hrel : ∀ a c, a < n → c < n → (sl n t a c ↔ sl n1 t1 (ss a) (ss c))) (hnu : ∀ r, r < n → nu r < n ∧ rank n t (nu r) = r) :
    (∀ q, q < n → lms n1 t1 (ss (nu q)) ∧ rank n t (idxS n ss (ss (nu q))) = q) ∧ (∀ s, lms n1 t1 s → rank n t (idxS n ss s) < n) ∧ Ord n1 t1 (fun s => rank n t (idxS n ss s)) ∧ Sorted n1 t1 (fun s => rank n t (idxS n ss s)) := by
  refine ⟨fun q hq => ⟨H.is _ (hnu q hq).1, ?_⟩, fun s hs => ?_, ⟨fun i j hi hj he => ?_⟩, fun i j hi hj hs => ?_⟩
  · rw [idx_at H (hnu q hq).1]
    exact (hnu q hq).2
  · exact rank_lt (idx_lt H s hs)
  · exact (idx_ord H).inj i j hi hj (rank_inj ht (idx_lt H i hi) (idx_lt H j hj) he)
  · obtain ⟨a, ha, rfl⟩ := H.all i hi
    obtain ⟨b, hb, rfl⟩ := H.all j hj
    show rank n t (idxS n ss (ss a)) < rank n t (idxS n ss (ss b))
    rw [idx_at H ha, idx_at H hb]
    exact rank_mono ((hrel a b ha hb).2 hs)
theorem rank_last (h : Txt n t) : rank n t (n - 1) = 0 := cnt_none fun j hj ⟨k, h1, h2, h3, h4⟩ => by
  obtain rfl : k = 0 := by omega
  rw [Nat.add_zero, Nat.add_zero, h.last] at h4
  omega
theorem endT_lt {L : List Nat} (hx : ∀ x ∈ L, x < 512) (i : Nat) : endT L i < 513 := by
  unfold endT
  split
  · have := hx _ (List.getElem_mem ‹_›); omega
  · omega
end
end Go.Proofs.YtglndihdhaaccaaDoor

namespace Go.Proofs.YtglndihdhaaccaaDoor
open Go.RowKit
open Go.ChangeShapes Go.WideShapes Go.ChangeAt
open Go.Proofs.YtglndihdhaaccaaDoor.SA
theorem SufSorted_e81 : elemQ Tryd.prog 81 = some (21, 1) := by kernel_rfl
theorem SufSorted_e113 : elemQ Tryd.prog 113 = some (110, 1) := by kernel_rfl
theorem SufSorted_q113 : litQ Tryd.prog 113 = some (110, 1, 8, (.pointer none)) := by kernel_rfl
theorem SufSorted_l60 : (elemQ Tryd.prog 60).isSome = true := by kernel_rfl
theorem SufSorted_k45 : callable Tryd.prog 45 = true := by kernel_rfl
theorem SufSorted_k44 : callable Tryd.prog 44 = true := by kernel_rfl
theorem SufSorted_k46 : callable Tryd.prog 46 = true := by kernel_rfl
theorem SufSorted_l81 : (elemQ Tryd.prog 81).isSome = true := by kernel_rfl
theorem SufSorted_k47 : callable Tryd.prog 47 = true := by kernel_rfl
theorem SufSorted_l113 : (elemQ Tryd.prog 113).isSome = true := by kernel_rfl
theorem SufSorted_g110 : aggQ Tryd.prog 110 = some false := by kernel_rfl
theorem SufSorted_k48 : callable Tryd.prog 48 = true := by kernel_rfl
theorem SufSorted_m60 : makeQ Tryd.prog 60 = some (3, 8, (.int .i64 0)) := by kernel_rfl
theorem SufSorted_g21 : aggQ Tryd.prog 21 = some false := by kernel_rfl
theorem SufSorted_s21 : (Tryd.prog.underlying 21).isSome = true := by kernel_rfl
theorem SufSorted_i3 : Tryd.prog.underlying 3 = some (.int .i64) := by kernel_rfl
theorem SufSorted_e60 : elemQ Tryd.prog 60 = some (3, 1) := by kernel_rfl
theorem SufSorted_z3 : sizeQ Tryd.prog 3 = some 1 := by kernel_rfl
theorem own_maxc {w : World} {base e n c : Nat} {A : Option Addr} {xs : List Value} (h : w.ownsRow base e 1 (.slice A n c) n xs) : c ≤ 9223372036854775807 := by
  rcases h.2 with ⟨h0, _⟩ | ⟨g, cap, cur, hv, _, _, _, h3, _⟩
  · simp only [Value.slice.injEq] at h0
    omega
  · simp only [Value.slice.injEq] at hv
    unfold maxLen at h3
    omega
theorem stk_take {w : World} {A : Option Addr} {bs : List Nat} {b : Nat} (h : RowOf pV w A (bs ++ [b])) : ∃ gs oS, A = some ⟨gs, oS, none⟩ ∧ w.cell? ⟨gs, oS + bs.length, none⟩ = some (pV b) ∧ RowOf pV w (some ⟨gs, oS, none⟩) bs := by
  obtain ⟨gs, oS, rfl, hc⟩ := h (by simp)
  refine ⟨gs, oS, rfl, ?_, fun _ => ⟨gs, oS, rfl, fun i hi => ?_⟩⟩
  · have := hc bs.length (by simp)
    simpa using this
  · have := hc i (by simp; omega)
    rwa [List.getElem_append_left hi] at this
theorem ord_cells {w : World} {A : Option Addr} {ol : List Nat} (h : RowOf jV w A (ol.map fun x : Nat => (x : Int))) (h0 : 0 < ol.length) : ∃ bo oo, A = some ⟨bo, oo, none⟩ ∧ ∀ q, q < ol.length → w.cell? ⟨bo, oo + q, none⟩ = some (.int .i32 ((ol.getD q 0 : Nat) : Int)) := by
  obtain ⟨bo, oo, rfl, hc⟩ := h (by simpa using h0)
  refine ⟨bo, oo, rfl, fun q hq => ?_⟩
  have := hc q (by simpa using hq)
  rw [List.getElem_map] at this
  rw [List.getD_eq_getElem?_getD, List.getElem?_eq_getElem hq]
  exact this
set_option maxHeartbeats 4000000 in
theorem sorted_rt (A : Option Addr) (c N0 : Nat) (L : List Nat) (w : World) (hr : RowOf iV w A (L.map fun x : Nat => (x : Int))) (hN : N0 = L.length) (hl : N0 ≤ 131072) (hx : ∀ x ∈ L, x < 512) :
    Rt Tryd.prog 40 [.slice A N0 c] w (fun v w' => (∃ g ys, v = .slice (if N0 = 0 then none else some ⟨g, 0, none⟩) N0 N0 ∧ w.heap.size ≤ g ∧ (0 < N0 → Blk w' g 3 (tabI N0 ys)) ∧ ∀ i, i < N0 → 0 < rank (N0 + 1) (endT L) i ∧ ys (rank (N0 + 1) (endT L) i - 1) = (i : Nat)) ∧ From w w') := by
  refine enter (n := 81) Tryd.func40 rfl rfl rfl ?_
  refine cd_seq (cd_region ?_)
  refine ass rfl ?_
  refine st_nil (nx_then (cd_seq (cd_seq (cd_region ?_))))
  refine mvs rfl ?_
  refine st_val (ro_len SufSorted_l60 rfl) ?_
  refine st_val (ro_eql rfl rfl) ?_
  refine st_nil (nx_then ?_)
  refine cd_cond rfl (fun Q1 => ?_) (fun Q1 => ?_)
  · with_reducible replace Q1 := of_decide_eq_true Q1
    refine cd_seq (cd_region ?_)
    refine ass rfl ?_
    refine st_nil (nx_then (cd_ret (rt_then ?_)))
    refine res1 (v := .slice _ _ _) rfl rfl ?_
    obtain rfl : N0 = 0 := by omega
    exact ⟨⟨w.heap.size, fun _ => 0, rfl, Nat.le_refl _, fun h => absurd h (by omega), fun i h => absurd h (by omega)⟩, From.rfl_⟩
  with_reducible replace Q1 := of_decide_eq_false Q1
  have hN0 : 0 < N0 := by omega
  have htx : Txt (N0 + 1) (endT L) := by rw [hN]; exact endT_txt L
  refine cd_skip (nx_then (cd_seq (cd_region ?_)))
  refine mvs rfl ?_
  refine st_call SufSorted_k45 (withEnd_rt A c N0 L _ (hr.from_ From.rfl_) hN hl hx) ?_
  rintro v16 w2 ⟨⟨g16, rfl, hg16, hv16⟩, E16⟩
  refine st_call SufSorted_k44 (newText_rt g16 (N0 + 1) 513 (endT L) _ (VJ.of_blk hv16) htx (fun i _ => endT_lt hx i) (by omega) (by omega)) ?_
  rintro v17 w3 ⟨⟨b, m, ss, rfl, hta, hst⟩, E17⟩
  refine asp rfl ?_
  refine st_nil (nx_then (cd_seq (cd_region ?_)))
  refine ass rfl ?_
  refine st_nil (nx_then (cd_seq (cd_region ?_)))
  refine mvp rfl ?_
  refine st_call SufSorted_k46 (names_rt b (N0 + 1) 513 m (endT L) ss _ hta (hst.pos htx (by omega)) (by have := hst.less htx (by omega); omega) (by omega) (by omega) hst (by omega) htx (fun i _ => endT_lt hx i)) ?_
  rintro v20 w4 ⟨⟨idx, ol, Ao, co, gN, nm, kinds, rfl, hro, hgN, hnm, hI, hord, hrow, hkn⟩, E20⟩
  refine mvt rfl ?_
  refine st_val (ro_extract rfl rfl) ?_
  refine st_val (ro_extract rfl rfl) ?_
  refine st_val (ro_extract rfl rfl) ?_
  refine ass rfl ?_
  refine ass rfl ?_
  refine asi rfl ?_
  refine st_nil (nx_then (cd_seq (cd_block ?_)))
  refine cd_loop (G := List Nat × Option Addr × Nat × Nat × Nat × Nat × Nat × (Nat → Nat) × (Nat → Nat) × (Nat → Nat) × (Nat → Nat) × List Nat × Option Addr × Nat × Nat × Nat) [24, 25, 26, 27, 28, 29, 30, 31, 32, 33, 34, 35, 36, 37, 38, 39, 40] (fun (bs, AS, cs, b, _, _, m, _, _, _, _, ol, Ao, co, g, kinds) => [(3, .pointer (some ⟨b, 0, none⟩)), (4, .slice AS bs.length cs), (5, .slice Ao ol.length co), (6, .slice (some ⟨g, 0, none⟩) m m), (7, .int .i64 ((kinds + 1 : Nat) : Int))]) (fun (bs, AS, cs, b, n, K, m, t, ss, nm, idx, ol, Ao, co, g, kinds) w' => Stk w' (N0 + 1) (endT L) bs n t ∧ TextOK w' b n K m t ss ∧ w'.ownsRow w.heap.size 110 1 (.slice AS bs.length cs) bs.length (bs.map pV) ∧ RowOf jV w' Ao (ol.map fun x : Nat => (x : Int)) ∧ VJ w' g m (fun k => ((nm k : Nat) : Int)) ∧ InvN n t idx m ss n nm kinds ∧ SA.Ord n t idx ∧ Rowed n t idx n ol ∧ kinds ≤ n ∧ bs.length + n ≤ 200000 ∧ From w w') (fun (_, _, _, _, n, _) => n) (([], none, 0, b, N0 + 1, 513, m, endT L, ss, nm, idx, ol, Ao, co, gN, kinds)) ⟨rfl, rfl, rfl, rfl, rfl, trivial⟩ ?_ ?_
  · exact ⟨.nil, ⟨hta.from_ E20, hst, htx, by omega, by omega, by omega, fun i _ => endT_lt hx i⟩, World.ownsRow_nil _ _ _ _, hro, hnm, hI, hord, hrow, hkn, by simp; omega, (((From.rfl_.next E16).next E17).next E20)⟩
  rintro ⟨bs, AS, cs, b, n, K, m, t, ss, nm, idx, ol, Ao, co, g, kinds⟩ ρ5 w5 ⟨hstk, hok, ho, hro, hnm, hI, hord, hrow, hkn, hbn, hB⟩
  refine cd_seq (cd_seq (cd_region ?_))
  refine mvi rfl ?_
  refine mvs rfl ?_
  refine st_val (ro_len SufSorted_l81 rfl) ?_
  refine st_val (ro_lss rfl rfl) ?_
  refine st_nil (nx_then ?_)
  refine cd_cond rfl (fun Q6 => ?_) (fun Q6 => ?_)
  · with_reducible replace Q6 := of_decide_eq_true Q6
    have hkm : kinds + 1 < m := by omega
    have hless := hok.st.less hok.tx hok.n2
    have hred := red_txt hok.tx hok.n2 hord hok.st hI
    have hnl := hok.nl
    refine cd_skip (nx_then (cd_block (cd_seq (cd_region ?_))))
    refine mvs rfl ?_
    refine mvp rfl ?_
    refine st_lit1 (v := .pointer _) SufSorted_q113 rfl rfl rfl ?_
    intro b30 w7 E30 hb30 hk30
    refine st_appendB (base := w.heap.size) SufSorted_q113 rfl (by decide) rfl (A := AS) (xs := bs.map pV) (news := [pV b]) (ho.kept_from E30) ((hB.next E30).size) rfl rfl (fun _ => ⟨b30, 0, rfl, hk30.whole⟩) (fun h => by cases h) (by simp [Value.oneCell']) (by omega) (by omega) ?_
    intro A31 c31 w8 ho31 hg31
    have hoq := ho.kept_from E30
    have HB31 : From w w8 := ((hB.next E30)).grew hg31 (fun k hk => (own_at ho k hk).1)
    have hstk31 := (hstk.from_ E30).off hoq hg31
    have hok31 := (hok.from_ E30).off hoq hg31
    have hnm31 := (hnm.from_ E30).off hoq hg31
    refine ass rfl ?_
    refine st_nil (nx_then (cd_seq (cd_region ?_)))
    refine mvs rfl ?_
    refine mvi rfl ?_
    refine st_call SufSorted_k44 (newText_rt g m (kinds + 1) nm _ hnm31 hred.1 (fun i hi => by have := hred.2 i hi; omega) (by omega) (by omega)) ?_
    rintro v34 w9 ⟨⟨b2, m2, ss2, rfl, hta2, hst2⟩, E34⟩
    refine asp rfl ?_
    refine st_nil (nx_then (cd_region ?_))
    refine mvp rfl ?_
    refine st_call SufSorted_k46 (names_rt b2 m (kinds + 1) m2 nm ss2 _ hta2 (hst2.pos hred.1 (by omega)) (by have := hst2.less hred.1 (by omega); omega) (by omega) (by omega) hst2 (by omega) hred.1 (fun i hi => by have := hred.2 i hi; omega)) ?_
    rintro v37 w10 ⟨⟨idx2, ol2, Ao2, co2, gN2, nm2, kinds2, rfl, hro2, hgN2, hnm2, hI2, hord2, hrow2, hkn2⟩, E37⟩
    refine mvt rfl ?_
    refine st_val (ro_extract rfl rfl) ?_
    refine st_val (ro_extract rfl rfl) ?_
    refine st_val (ro_extract rfl rfl) ?_
    refine ass rfl ?_
    refine ass rfl ?_
    refine asi rfl ?_
    refine st_nil (nx_block ?_)
    refine nx_cut ((bs ++ [b], A31, c31, b2, m, kinds + 1, m2, nm, ss2, nm2, idx2, ol2, Ao2, co2, gN2, kinds2)) ⟨rfl, (by show Value.slice A31 (bs.length + 1) c31 = Value.slice A31 (bs ++ [b]).length c31; rw [List.length_append]; rfl), rfl, rfl, rfl, trivial⟩ (by (iterate 44 refine agr_cons rfl ?_); exact agr_rfl) ⟨?_, ?_⟩
    · refine ⟨.cons ((hstk31.from_ E34).from_ E37) ((hok31.from_ E34).from_ E37) (fun a c ha hc => red_iff hok.tx hok.n2 hord hok.st hI ha hc), ⟨hta2.from_ E37, hst2, hred.1, by omega, by omega, by omega, fun i hi => by have := hred.2 i hi; omega⟩, ?_, hro2, hnm2, hI2, hord2, hrow2, hkn2, by rw [List.length_append]; simp; omega, ((HB31.next E34).next E37)⟩
      rw [List.length_append, List.map_append]
      exact (ho31.kept_from E34).kept_from E37
    · show m < n; exact hless
  with_reducible replace Q6 := of_decide_eq_false Q6
  have hkm : kinds + 1 = m := by have := kinds_le hok.st (hok.st.pos hok.tx hok.n2) hI; omega
  obtain ⟨ho1, ho2, ho3, hso⟩ := ord_of hok.tx hord hok.st hI hkm hrow
  have h0l : 0 < ol.length := by have := ho2 _ (lms_last hok.tx hok.n2); omega
  obtain ⟨bo, oo, rfl, hoc⟩ := ord_cells hro h0l
  have hll := hrow.len_le
  have hnl := hok.nl
  have hcs : cs ≤ 9223372036854775807 := own_maxc ho
  refine cd_exit ?_
  refine ex_then (ex_then (ex_block (nx_then (cd_seq (cd_region ?_)))))
  refine mvp rfl ?_
  refine mvs rfl ?_
  refine st_call SufSorted_k47 (induce_rt b n K m t ss _ (hok.at_.from_ From.rfl_) hok.n2 hok.tx hok.kt hok.nl hok.kl bo oo ol.length co (fun q => ol.getD q 0) (plc ol) (fun q hq => cellF From.rfl_ (hoc q hq)) ho1 ho2 ho3 (by omega)) ?_
  rintro v43 w11 ⟨⟨g43, xs, rfl, hg43, hxs, hxp⟩, E43⟩
  refine ass rfl ?_
  refine st_nil (nx_then (cd_seq (cd_block ?_)))
  refine cd_loop (G := Nat × List Nat × Option Addr × Nat × Nat × Nat × (Nat → Nat) × Nat) [44, 45, 46, 47, 48, 49, 50, 51, 52, 53, 54, 55, 56, 57, 58, 59, 60, 61, 62] (fun (q, _, AS, cs, b, n, _, g) => [(3, .pointer (some ⟨b, 0, none⟩)), (4, .slice AS q cs), (8, .slice (some ⟨g, 0, none⟩) n n)]) (fun (q, bs, AS, cs, b, n, t, g) w' => q = bs.length ∧ Stk w' (N0 + 1) (endT L) bs n t ∧ Txt n t ∧ n ≤ 200000 ∧ Rws w' g n t ∧ RowOf pV w' AS bs ∧ q ≤ cs ∧ cs ≤ 9223372036854775807 ∧ q ≤ 200000 ∧ From w w') (fun (q, _) => q) ((bs.length, bs, AS, cs, b, n, t, g43)) ⟨rfl, rfl, rfl, trivial⟩ ?_ ?_
  · have hrp := (RowOf.own (ho.kept_from E43)).2
    exact ⟨rfl, hstk.from_ E43, hok.tx, hok.nl, rws_of hok.tx hso hxs hxp, hrp, own_cap ho, hcs, by omega, (hB.next E43)⟩
  rintro ⟨q, bs, AS, cs, b, n, t, g⟩ ρ12 w12 ⟨hq, hstk, htx, hnl, hrw, hrp, hqc, hcs, hql, hB⟩
  refine cd_seq (cd_seq (cd_region ?_))
  refine mvs rfl ?_
  refine st_val (ro_len SufSorted_l113 rfl) ?_
  refine st_val (ro_gtr rfl rfl) ?_
  refine st_nil (nx_then ?_)
  refine cd_cond rfl (fun Q13 => ?_) (fun Q13 => ?_)
  · with_reducible replace Q13 := of_decide_eq_true Q13
    obtain ⟨bs0, b0, n1, K1, t1, ss1, rfl, hstk0, hok0, hrel⟩ := hstk.inv (by omega)
    obtain ⟨gs, oS, rfl, hcell, hrp0⟩ := stk_take hrp
    have hq0 : q - 1 = bs0.length := by rw [List.length_append] at hq; simp at hq; omega
    obtain ⟨nu, hnv, hnr, hnu⟩ := hrw
    obtain ⟨ho1, ho2, ho3, ho4⟩ := ord_next htx hok0.st hrel hnu
    refine cd_skip (nx_then (cd_block (cd_seq (cd_region ?_))))
    refine mvs rfl ?_
    refine mvs rfl ?_
    refine st_val (ro_len SufSorted_l113 rfl) ?_
    refine st_val (ro_subN (b := 1) rfl rfl (by omega)) ?_
    refine st_val (ro_indexAddr1 SufSorted_e113 rfl rfl (by omega)) ?_
    refine st_val (ro_load SufSorted_g110 rfl (by exact cellF From.rfl_ (by rw [hq0]; exact hcell))) ?_
    refine asp rfl ?_
    refine st_nil (nx_then (cd_seq (cd_region ?_)))
    refine mvs rfl ?_
    refine mvs rfl ?_
    refine st_val (ro_len SufSorted_l113 rfl) ?_
    refine st_val (ro_subN (b := 1) rfl rfl (by omega)) ?_
    refine st_val (ro_takeN (m := q - 1) SufSorted_e113 rfl rfl (by omega)) ?_
    refine ass rfl ?_
    refine st_nil (nx_then (cd_region ?_))
    refine mvp rfl ?_
    refine mvp rfl ?_
    refine mvs rfl ?_
    refine st_call SufSorted_k48 (startsAt_rt b0 n1 K1 n t1 ss1 _ (hok0.at_.from_ From.rfl_) htx.pos hnl g nu (hnv.from_ From.rfl_) (fun r hr => (hnu r hr).1)) ?_
    rintro v61 w14 ⟨⟨g61, rfl, hg61, hv61⟩, E61⟩
    refine st_call SufSorted_k47 (induce_rt b0 n1 K1 n t1 ss1 _ ((hok0.at_.from_ (From.rfl_.next E61))) hok0.n2 hok0.tx hok0.kt hok0.nl hok0.kl g61 0 n n (fun q => ss1 (nu q)) (fun s => rank n t (idxS n ss1 s)) (fun q hq => by rw [Nat.zero_add]; exact hv61.rdN hq) ho1 ho2 ho3 hnl) ?_
    rintro v62 w15 ⟨⟨g62, xs2, rfl, hg62, hxs2, hxp2⟩, E62⟩
    refine ass rfl ?_
    refine st_nil (nx_block ?_)
    refine nx_cut ((q - 1, bs0, some ⟨gs, oS, none⟩, cs, b0, n1, t1, g62)) ⟨rfl, rfl, rfl, trivial⟩ (by (iterate 44 refine agr_cons rfl ?_); exact agr_rfl) ⟨?_, ?_⟩
    · exact ⟨hq0, (hstk0.from_ E61).from_ E62, hok0.tx, hok0.nl, rws_of hok0.tx ho4 hxs2 hxp2, (hrp0.from_ E61).from_ E62, by omega, hcs, by omega, ((hB.next E61).next E62)⟩
    · show q - 1 < q; omega
  with_reducible replace Q13 := of_decide_eq_false Q13
  obtain ⟨rfl, rfl⟩ := hstk.nil_inv (by omega)
  obtain ⟨nu, hnv, hnr, hnu⟩ := hrw
  refine cd_exit ?_
  refine ex_then (ex_then (ex_block (nx_then (cd_seq (cd_region ?_)))))
  refine mvs rfl ?_
  refine st_val (ro_len SufSorted_l60 rfl) ?_
  refine st_make SufSorted_m60 rfl rfl rfl (by omega) (by omega) ?_
  intro b65 w16 E65 hb65 hk65
  have hg65 : w.heap.size ≤ b65 := by rw [hb65]; exact (hB).size
  have hgl : g < b65 := by rw [hb65]; exact hnv.lt
  refine ass rfl ?_
  refine st_nil (nx_then (cd_seq (cd_seq (cd_region ?_))))
  refine mvs rfl ?_
  refine st_val (ro_eq (v' := .slice (some ⟨g, 1, none⟩) N0 N0) (ro_dropN (m := 1) SufSorted_e81 rfl rfl (by omega) (Nat.le_refl _)) (by rw [if_neg (by omega)]; rfl)) ?_
  refine st_val (ro_len SufSorted_l81 rfl) ?_
  refine mvi rfl ?_
  refine st_nil (nx_then (cd_block ?_))
  refine cd_loop (G := Nat × (Nat → Int)) [10, 11, 70, 71, 72, 73, 74, 75, 76, 77, 78, 79] (fun (k, _) => [(69, .int .i64 (k : Nat))]) (fun (k, ys) w' => k ≤ N0 ∧ (∀ i, i < k → ys i = ((nu (1 + i) : Nat) : Int)) ∧ Blk w' b65 3 (tabI N0 ys) ∧ VJ w' g (N0 + 1) (fun r => ((nu r : Nat) : Int)) ∧ From w w') (fun (k, _) => N0 - k) ((0, fun _ => 0)) ⟨rfl, trivial⟩ ?_ ?_
  · exact ⟨Nat.zero_le _, fun i h => absurd h (by omega), by rw [← tabI_zero]; exact hk65, hnv.from_ E65, (hB.next E65)⟩
  rintro ⟨k, ys⟩ ρ17 w17 ⟨hk, hys, hT, hnv, hB⟩
  refine cd_seq (cd_region ?_)
  refine st_val (ro_lss rfl rfl) ?_
  refine st_nil (nx_then (cd_seq ?_))
  refine cd_cond rfl (fun Q18 => ?_) (fun Q18 => ?_)
  · with_reducible replace Q18 := of_decide_eq_true Q18
    have hkN : k < N0 := by omega
    have hnk := (hnu (1 + k) (by omega)).1
    refine cd_skip (nx_then (cd_seq (cd_block (cd_seq (cd_region ?_)))))
    refine mvi rfl ?_
    refine st_val (ro_indexAddr1 SufSorted_e81 rfl rfl (by exact hkN)) ?_
    refine st_val (ro_load SufSorted_g21 rfl (by exact (hnv.from_ From.rfl_).rdN (by omega))) ?_
    refine asi rfl ?_
    refine asi rfl ?_
    refine st_nil (nx_then (cd_region ?_))
    refine mvs rfl ?_
    refine mvi rfl ?_
    refine mvi rfl ?_
    refine st_val (ro_convI SufSorted_s21 SufSorted_i3 rfl (by omega)) ?_
    refine st_val (ro_indexAddr0 SufSorted_e60 rfl rfl (by exact hkN)) ?_
    refine st_put (v := .int _ _) SufSorted_z3 rfl rfl rfl (hT) (by rw [tabI_size]; exact hkN) ?_
    intro w19 O19 P19
    have P19b : Blk w19 b65 3 (tabI N0 (upd ys k ((nu (1 + k) : Nat) : Int))) := by rw [← tabI_set]; exact P19
    refine st_nil (nx_block (nx_then (cd_region ?_)))
    refine st_val (ro_addN (b := 1) rfl rfl (by omega)) ?_
    refine mvi rfl ?_
    refine st_nil ?_
    refine nx_cut ((k + 1, upd ys k ((nu (1 + k) : Nat) : Int))) ⟨(by first | rfl | (refine int_eq ?_; omega)), trivial⟩ (by (iterate 26 refine agr_cons rfl ?_); exact agr_rfl) ⟨?_, ?_⟩
    · refine ⟨by omega, fun i hi => ?_, P19b, hnv.only O19 (by omega), (hB.only O19 (hg65))⟩
      unfold upd
      split
      · rename_i e; rw [e]
      · exact hys i (by omega)
    · show N0 - (k + 1) < N0 - k; omega
  with_reducible replace Q18 := of_decide_eq_false Q18
  refine cd_exit ?_
  refine ex_then (ex_then (ex_block (nx_then (cd_seq (cd_region ?_)))))
  refine mvs rfl ?_
  refine ass rfl ?_
  refine st_nil (nx_then (cd_ret ?_))
  refine res1 (v := .slice _ _ _) rfl rfl ?_
  obtain rfl : N0 = k := by omega
  refine ⟨⟨b65, ys, by rw [if_neg (by omega)], hg65, fun _ => hT, fun i hi => ?_⟩, hB⟩
  have h0r : 0 < rank (N0 + 1) (endT L) i := by
    rcases Nat.eq_zero_or_pos (rank (N0 + 1) (endT L) i) with e | e
    · have := rank_inj htx (show i < N0 + 1 by omega) (show N0 + 1 - 1 < N0 + 1 by omega) (by rw [e, rank_last htx])
      omega
    · exact e
  have hrl := rank_lt (n := N0 + 1) (t := endT L) (show i < N0 + 1 by omega)
  refine ⟨h0r, ?_⟩
  rw [hys _ (by omega), show 1 + (rank (N0 + 1) (endT L) i - 1) = rank (N0 + 1) (endT L) i by omega, hnr i (by omega)]
end Go.Proofs.YtglndihdhaaccaaDoor

namespace Go.Proofs.YtglndihdhaaccaaDoor
open Go.RowKit
open Go.ChangeShapes Go.WideShapes Go.ChangeAt
open Go.Proofs.YtglndihdhaaccaaDoor.SA
theorem SufSort_k39 : callable Tryd.prog 39 = true := by kernel_rfl
theorem SufSort_l60 : (elemQ Tryd.prog 60).isSome = true := by kernel_rfl
theorem SufSort_k40 : callable Tryd.prog 40 = true := by kernel_rfl
/-- the suffix array, by ranks -/
structure IsSA (L F : List Nat) : Prop where
  len : F.length = L.length
  at_ : ∀ r (h : r < F.length), F[r] < L.length ∧ rank (L.length + 1) (endT L) F[r] = r + 1
theorem isSA_ys {L : List Nat} {N : Nat} {ys : Nat → Int} (hN : N = L.length) (h : ∀ i, i < N → 0 < rank (N + 1) (endT L) i ∧ ys (rank (N + 1) (endT L) i - 1) = (i : Nat)) : ∃ F, IsSA L F ∧ ∀ r, r < N → ys r = ((F.getD r 0 : Nat) : Int) := by
  subst hN
  have ht := endT_txt L
  have hs : ∀ r, r < L.length → ∃ i, i < L.length ∧ rank (L.length + 1) (endT L) i - 1 = r := surj (fun i hi => by have := rank_lt (n := L.length + 1) (t := endT L) (show i < L.length + 1 by omega); have := (h i hi).1; omega) (fun i j hi hj he => by
    have a := (h i hi).1
    have b := (h j hj).1
    exact rank_inj ht (by omega) (by omega) (by omega))
  refine ⟨(List.range L.length).map fun r => (ys r).toNat, ⟨by simp, fun r hr => ?_⟩, fun r hr => ?_⟩
  · have hr2 : r < L.length := by simpa using hr
    obtain ⟨i, hi, e⟩ := hs r hr2
    obtain ⟨h0, h1⟩ := h i hi
    rw [List.getElem_map, List.getElem_range]
    rw [e] at h1
    rw [h1, Int.toNat_natCast]
    exact ⟨hi, by omega⟩
  · obtain ⟨i, hi, e⟩ := hs r hr
    obtain ⟨h0, h1⟩ := h i hi
    rw [e] at h1
    rw [List.getD_eq_getElem?_getD, List.getElem?_map, List.getElem?_range hr]
    simp [h1]
theorem nat_list : ∀ {xs : List Int}, xs.all (okS 512) = true → ∃ L : List Nat, xs = L.map (fun x : Nat => (x : Int)) ∧ ∀ x ∈ L, x < 512
  | [], _ => ⟨[], rfl, fun _ h => (by cases h)⟩
  | x :: xs, h => by
    rw [List.all_cons, Bool.and_eq_true] at h
    obtain ⟨L, e, hL⟩ := nat_list h.2
    obtain ⟨h1, h2⟩ := okS_iff.1 h.1
    refine ⟨x.toNat :: L, ?_, fun y hy => ?_⟩
    · rw [List.map_cons, ← e, Int.toNat_of_nonneg h1]
    · rcases List.mem_cons.1 hy with rfl | hy
      · omega
      · exact hL y hy
theorem all_nat {L : List Nat} (h : ∀ x ∈ L, x < 512) : (L.map fun x : Nat => (x : Int)).all (okS 512) = true := by
  rw [List.all_eq_true]
  intro x hx
  obtain ⟨y, hy, rfl⟩ := List.mem_map.1 hx
  have := h y hy
  exact okS_yes (by omega) (by omega)
/-- what Sort tells -/
def SortA (w' : World) (base n : Nat) (xs : List Int) (v : Value) : Prop :=
  (xs.all (okS 512) = false ∧ v = .tuple #[.slice none 0 0, .int .i64 1]) ∨ (∃ L F A', xs = L.map (fun x : Nat => (x : Int)) ∧ (∀ x ∈ L, x < 512) ∧ IsSA L F ∧ v = .tuple #[.slice A' n n, .int .i64 0] ∧ w'.ownsRow base 3 1 (.slice A' n n) n (F.map fun x : Nat => iV (x : Nat)))
theorem own_tab {w : World} {base g n : Nat} {ys : Nat → Int} {F : List Nat} (hg : base ≤ g) (hb : 0 < n → Blk w g 3 (tabI n ys)) (hn : n = F.length) (hl : n ≤ 1000000) (h : ∀ r, r < n → ys r = ((F.getD r 0 : Nat) : Int)) : w.ownsRow base 3 1 (.slice (if n = 0 then none else some ⟨g, 0, none⟩) n n) n (F.map fun x : Nat => iV (x : Nat)) := by
  by_cases e : n = 0
  · subst e
    rw [if_pos rfl]
    obtain rfl : F = [] := List.eq_nil_of_length_eq_zero hn.symm
    exact World.ownsRow_nil _ _ _ _
  · rw [if_neg e]
    refine own_of (cur := (List.range n).map fun i => iV (ys i)) hg (hb (by omega)) (Nat.le_refl _) (by unfold maxLen; omega) (by simp) ?_
    rw [Nat.mul_one, List.take_of_length_le (by simp)]
    apply List.ext_getElem (by simp [hn])
    intro r h1 h2
    have hr : r < n := by simpa using h1
    rw [List.getElem_map, List.getElem_range, List.getElem_map, h r hr, List.getD_eq_getElem?_getD, List.getElem?_eq_getElem (by omega)]
    rfl
set_option maxHeartbeats 400000 in
theorem sort_rt (A : Option Addr) (c n : Nat) (xs : List Int) (w : World) (hr : RowOf iV w A xs) (hn : n = xs.length) (hl : n ≤ 131072) :
    Rt Tryd.prog 32 [.slice A n c] w (fun v w' => SortA w' w.heap.size n xs v ∧ From w w') := by
  refine enter (n := 12) Tryd.func32 rfl rfl rfl ?_
  refine cd_seq (cd_region ?_)
  refine ass rfl ?_
  refine asi rfl ?_
  refine st_nil (nx_then (cd_seq (cd_seq (cd_region ?_))))
  refine mvs rfl ?_
  refine st_call SufSort_k39 (symbols_rt A c n xs _ (hr.from_ From.rfl_) hn (by omega)) ?_
  rintro v5 w1 ⟨rfl, E5⟩
  refine st_val (ro_not rfl) ?_
  refine st_nil (nx_then ?_)
  refine cd_cond rfl (fun Q2 => ?_) (fun Q2 => ?_)
  · with_reducible replace Q2 := bn_t Q2
    have hno : xs.all (okS 512) = false := by simpa using Q2
    refine cd_seq (cd_region ?_)
    refine ass rfl ?_
    refine asi rfl ?_
    refine st_nil (nx_then (cd_ret (rt_then ?_)))
    refine res2 (v := .slice _ _ _) (v' := .int _ _) rfl rfl rfl ?_
    exact ⟨.inl ⟨hno, rfl⟩, (From.rfl_.next E5)⟩
  with_reducible replace Q2 := bn_f Q2
  have hall : xs.all (okS 512) = true := by simpa using Q2
  obtain ⟨L, hxs, hL⟩ := nat_list hall
  refine cd_skip (nx_then (cd_seq (cd_seq (cd_region ?_))))
  refine mvs rfl ?_
  refine st_val (ro_len SufSort_l60 rfl) ?_
  refine st_val (ro_gtr rfl rfl) ?_
  refine st_nil (nx_then ?_)
  refine cd_cond rfl (fun Q3 => ?_) (fun Q3 => ?_)
  · with_reducible replace Q3 := of_decide_eq_true Q3
    refine cd_seq (cd_region ?_)
    refine ass rfl ?_
    refine asi rfl ?_
    refine st_nil (nx_then (cd_ret (rt_then ?_)))
    refine res2 (v := .slice _ _ _) (v' := .int _ _) rfl rfl rfl ?_
    exfalso; omega
  with_reducible replace Q3 := of_decide_eq_false Q3
  refine cd_skip (nx_then (cd_seq (cd_region ?_)))
  refine mvs rfl ?_
  have hB11 : From w w1 := (From.rfl_.next E5)
  refine st_call SufSort_k40 (sorted_rt A c n L _ (by rw [← hxs]; exact hr.from_ (From.rfl_.next E5)) (by rw [hn, hxs, List.length_map]) hl hL) ?_
  rintro v11 w4 ⟨⟨g, ys, rfl, hg, hb, hys⟩, E11⟩
  refine ass rfl ?_
  refine asi rfl ?_
  refine st_nil (nx_then (cd_ret ?_))
  refine res2 (v := .slice _ _ _) (v' := .int _ _) rfl rfl rfl ?_
  obtain ⟨F, hF, hFy⟩ := isSA_ys (show n = L.length by rw [hn, hxs, List.length_map]) hys
  exact ⟨.inr ⟨L, F, _, hxs, hL, hF, rfl, own_le (own_tab hg hb (by rw [hF.len, hn, hxs, List.length_map]) (by omega) hFy) hB11.size⟩, ((From.rfl_.next E5).next E11)⟩
end Go.Proofs.YtglndihdhaaccaaDoor

namespace Go.Proofs.YtglndihdhaaccaaDoor
open Go.RowKit
open Go.ChangeShapes Go.WideShapes Go.ChangeAt
open Go.Proofs.YtglndihdhaaccaaDoor.SA
theorem endT_end {L : List Nat} : endT L L.length = 0 := by unfold endT; rw [dif_neg (Nat.lt_irrefl _)]
theorem rowL {w : World} {A : Option Addr} {L : List Nat} (h : RowOf iV w A (L.map fun x : Nat => (x : Int))) (h0 : 0 < L.length) : ∃ b o, A = some ⟨b, o, none⟩ ∧ ∀ i (hi : i < L.length), w.cell? ⟨b, o + i, none⟩ = some (.int .i64 ((L[i] : Nat) : Int)) := by
  obtain ⟨b, o, rfl, hc⟩ := h (by simpa using h0)
  refine ⟨b, o, rfl, fun i hi => ?_⟩
  have := hc i (by simpa using hi)
  rwa [List.getElem_map] at this
end Go.Proofs.YtglndihdhaaccaaDoor

namespace Go.Proofs.YtglndihdhaaccaaDoor
open Go.RowKit
open Go.ChangeShapes Go.WideShapes Go.ChangeAt
open Go.Proofs.YtglndihdhaaccaaDoor.SA
abbrev cI (l : List Nat) : List Int := l.map fun x : Nat => (x : Int)
/-- a row of numbers that may be read, and appended -/
structure Got (w : World) (A : Option Addr) (n c : Nat) (l : List Nat) : Prop where
  len : n = l.length
  row : RowOf iV w A (cI l)
  nil : A = none → c = 0
  cap : n ≤ c
/-- two halves that are merged -/
structure Mg (n : Nat) (t : Nat → Nat) (a out xs ys : List Nat) : Prop where
  mem : ∀ z, z ∈ a ↔ z ∈ out ∨ z ∈ xs ∨ z ∈ ys
  px : (out ++ xs).Pairwise (sl n t)
  py : (out ++ ys).Pairwise (sl n t)
  dj : ∀ z, z ∈ xs → z ∈ ys → False
  len : out.length + xs.length + ys.length = a.length
/-- what sorted tells -/
def SortedA (w w' : World) (n : Nat) (t : Nat → Nat) (a : List Nat) (v : Value) : Prop := ∃ B c F, v = .slice B a.length c ∧ Got w' B a.length c F ∧ (∀ z, z ∈ F ↔ z ∈ a) ∧ F.Pairwise (sl n t) ∧ From w w'
end Go.Proofs.YtglndihdhaaccaaDoor

namespace Go.Proofs.YtglndihdhaaccaaDoor
open Go.RowKit
open Go.ChangeShapes Go.WideShapes Go.ChangeAt
open Go.Proofs.YtglndihdhaaccaaDoor.SA
theorem cI_inj {a b : List Nat} (h : cI a = cI b) : a = b := by
  have := congrArg (List.map Int.toNat) h
  simpa [cI, List.map_map, Function.comp_def] using this
theorem sortA_own {w' : World} {base n c : Nat} {A' : Option Addr} {F : List Nat} (h : w'.ownsRow base 3 1 (.slice A' n c) n (F.map fun x : Nat => iV (x : Nat))) : n = F.length ∧ RowOf iV w' A' (cI F) := by
  have e : (F.map fun x : Nat => iV (x : Nat)) = (cI F).map iV := by simp [cI]
  rw [e] at h
  obtain ⟨a, b⟩ := RowOf.own h
  exact ⟨by simpa using a, b⟩
end Go.Proofs.YtglndihdhaaccaaDoor

namespace Go.Proofs.YtglndihdhaaccaaDoor
open Go.RowKit
open Go.ChangeShapes Go.WideShapes Go.ChangeAt
open Go.Proofs.YtglndihdhaaccaaDoor.SA
abbrev askT : Ty := .pr (.sl (.int .i64)) (.pr (.sl (.int .i64)) .unit)
structure AskAt (w : World) (b a : Nat) (A : Option Addr) (ca : Nat) (L : List Int) (B : Option Addr) (cb : Nat) (M : List Int) : Prop where
  cells : w.rangeAt b a [.slice A L.length ca, .slice B M.length cb]
  rowL : RowOf iV w A L
  rowM : RowOf iV w B M
  lenL : L.length * 8 ≤ 140737488351232
  lenM : M.length * 8 ≤ 140737488351232
end Go.Proofs.YtglndihdhaaccaaDoor

namespace Go.Proofs.YtglndihdhaaccaaDoor
open Go.RowKit
open Go.ChangeShapes Go.WideShapes Go.ChangeAt
open Go.Proofs.YtglndihdhaaccaaDoor.SA
/-- h symbols in common -/
def agr (L : List Nat) (i j h : Nat) : Prop := i + h ≤ L.length ∧ j + h ≤ L.length ∧ ∀ m, m < h → L.getD (i + m) 0 = L.getD (j + m) 0
/-- and no more -/
def stop (L : List Nat) (i j h : Nat) : Prop := ¬ (i + h < L.length ∧ j + h < L.length ∧ L.getD (i + h) 0 = L.getD (j + h) 0)
/-- what neighbours have in common -/
structure IsCm (L F C : List Nat) : Prop where
  len : C.length = F.length
  at0 : 0 < C.length → C.getD 0 0 = 0
  at_ : ∀ k, 0 < k → k < C.length → agr L (F.getD k 0) (F.getD (k - 1) 0) (C.getD k 0) ∧ stop L (F.getD k 0) (F.getD (k - 1) 0) (C.getD k 0)
theorem rowD {w : World} {A : Option Addr} {L : List Nat} (h : RowOf iV w A (cI L)) (h0 : 0 < L.length) : ∃ b o, A = some ⟨b, o, none⟩ ∧ ∀ i, i < L.length → w.cell? ⟨b, o + i, none⟩ = some (.int .i64 ((L.getD i 0 : Nat) : Int)) := by
  obtain ⟨b, o, rfl, hc⟩ := rowL h h0
  refine ⟨b, o, rfl, fun i hi => ?_⟩
  rw [hc i hi, List.getD_eq_getElem?_getD, List.getElem?_eq_getElem hi]
  rfl
theorem getD_app {C : List Nat} {x k : Nat} : (C ++ [x]).getD k 0 = if k < C.length then C.getD k 0 else if k = C.length then x else 0 := by
  rw [List.getD_eq_getElem?_getD, List.getD_eq_getElem?_getD, List.getElem?_append]
  split
  · rfl
  · split
    · rename_i e; subst e; simp
    · rw [List.getElem?_eq_none (by simp; omega)]; rfl
/-- as far as it is told -/
structure CmTo (L F C : List Nat) (k : Nat) : Prop where
  len : C.length = k
  at0 : 0 < k → C.getD 0 0 = 0
  at_ : ∀ q, 0 < q → q < k → agr L (F.getD q 0) (F.getD (q - 1) 0) (C.getD q 0) ∧ stop L (F.getD q 0) (F.getD (q - 1) 0) (C.getD q 0)
end Go.Proofs.YtglndihdhaaccaaDoor

namespace Go.Proofs.YtglndihdhaaccaaDoor.SA
section
variable {n : Nat} {t : Nat → Nat}
end
end Go.Proofs.YtglndihdhaaccaaDoor.SA

namespace Go.Proofs.YtglndihdhaaccaaDoor
open Go.RowKit
open Go.ChangeShapes Go.WideShapes Go.ChangeAt
open Go.Proofs.YtglndihdhaaccaaDoor.SA
theorem isSA_getD {L F : List Nat} (h : IsSA L F) {r : Nat} (hr : r < L.length) : F.getD r 0 < L.length ∧ rank (L.length + 1) (endT L) (F.getD r 0) = r + 1 := by
  have hr2 : r < F.length := by rw [h.len]; exact hr
  rw [List.getD_eq_getElem?_getD, List.getElem?_eq_getElem hr2]
  exact h.at_ r hr2
theorem isSA_inv {L F : List Nat} (h : IsSA L F) {i : Nat} (hi : i < L.length) : 0 < rank (L.length + 1) (endT L) i ∧ rank (L.length + 1) (endT L) i - 1 < L.length ∧ F.getD (rank (L.length + 1) (endT L) i - 1) 0 = i := by
  have ht := endT_txt L
  have h0 : 0 < rank (L.length + 1) (endT L) i := by
    rcases Nat.eq_zero_or_pos (rank (L.length + 1) (endT L) i) with e | e
    · have := rank_inj ht (show i < L.length + 1 by omega) (show L.length + 1 - 1 < L.length + 1 by omega) (by rw [e, rank_last ht])
      omega
    · exact e
  have hl := rank_lt (n := L.length + 1) (t := endT L) (show i < L.length + 1 by omega)
  have h1 : rank (L.length + 1) (endT L) i - 1 < L.length := by omega
  obtain ⟨a, b⟩ := isSA_getD h h1
  exact ⟨h0, h1, rank_inj ht (by omega) (by omega) (by rw [b]; omega)⟩
end Go.Proofs.YtglndihdhaaccaaDoor
