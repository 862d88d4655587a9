/- suffix: heads. -/
import Derived.Test.YtpafbgdbjambgaaSufWalks
namespace Go.Proofs.Ytpafbgdbjambgaa
open Go.RowKit
open Go.ChangeShapes Go.WideShapes Go.ChangeAt
open Go.Proofs.Ytpafbgdbjambgaa.SA
theorem SufHeads_e51 : elemQ Try.prog 51 = some (21, 1) := by kernel_rfl
theorem SufHeads_q51 : litQ Try.prog 51 = some (21, 1, 4, (.int .i32 0)) := by kernel_rfl
theorem SufHeads_f60_4 : fieldQ Try.prog 60 4 = some 4 := by kernel_rfl
theorem SufHeads_g51 : aggQ Try.prog 51 = some false := by kernel_rfl
theorem SufHeads_f60_1 : fieldQ Try.prog 60 1 = some 1 := by kernel_rfl
theorem SufHeads_g3 : aggQ Try.prog 3 = some false := by kernel_rfl
theorem heads_list (n K : Nat) (t : Nat → Nat) (h0 : 0 < K) : [jV 0] ++ ((List.range (K - 1)).map fun c => jV (less n t (c + 1) : Nat)) = ((List.range K).map fun c => ((less n t c : Nat) : Int)).map jV := by
  obtain ⟨K, rfl⟩ : ∃ k, K = k + 1 := ⟨K - 1, by omega⟩
  have e : less n t 0 = 0 := cnt_none fun i _ h => absurd h (by omega)
  rw [Nat.add_sub_cancel, List.range_succ_eq_map]
  simp [e]
set_option maxRecDepth 100000 in
set_option maxHeartbeats 400000 in
theorem heads_rt (b n K m : Nat) (t ss : Nat → Nat) (w : World) (hT : TextAt w b n K t m ss) (hK0 : 0 < K) (hK : K ≤ 1000000) :
    Rt Try.prog 36 [.pointer (some ⟨b, 0, none⟩)] w (fun v w' => (∃ g c, v = .slice (some ⟨g, 0, none⟩) K c ∧ w.heap.size ≤ g ∧ VJ w' g K (fun c => (less n t c : Nat))) ∧ From w w') := by
  obtain ⟨gl, gr, AS, cs, ge, hb, hl, hr, hs, he⟩ := hT
  refine enter (n := 15) Try.func36 rfl rfl rfl ?_
  refine cd_seq ?_
  refine cd_region ?_
  refine st_val (ro_assign (v := .slice _ _ _) rfl) ?_
  refine st_nil ?_
  refine nx_then ?_
  refine cd_seq ?_
  apply cd_mu9 12 11 [3] [(3, fun v w' => ∃ q, v = .slice (some ⟨q, 0, none⟩) 1 1 ∧ w'.ownsRow w.heap.size 21 1 (.slice (some ⟨q, 0, none⟩) 1 1) 1 [jV 0] ∧ (w).heap.size ≤ q), (4, eqp _), (5, eqp _), (6, eqp _), (7, eqp _), (8, eqp _), (9, eqp _), (10, eqp _), (11, eqp _), (12, eqp _), (13, eqp _), (14, fun v w' => ∃ A2 c2, v = .slice A2 K c2 ∧ w'.ownsRow w.heap.size 21 1 (.slice A2 K c2) K ([jV 0] ++ ((List.range (K - 1)).map fun c => jV (less n t (c + 1) : Nat))))] (fun w' => From w w') (fun w' => From w w') (by repeat first | exact pq_body | refine pq_then ?_ | refine pq_block ?_) (by kernel_rfl) (by kernel_rfl) (by kernel_rfl) ⟨(fun _ _ _ hF ⟨q, h1, h2, h3⟩ => ⟨q, h1, h2.kept_from hF, h3⟩), eqp_mono _, eqp_mono _, eqp_mono _, eqp_mono _, eqp_mono _, eqp_mono _, eqp_mono _, eqp_mono _, eqp_mono _, eqp_mono _, (fun _ _ _ hF ⟨A2, c2, h1, h2⟩ => ⟨A2, c2, h1, h2.kept_from hF⟩), trivial⟩ (From.rfl_.d1) (From.rfl_.d1) (fun _ _ hF h => h.next hF) (fun _ _ hF h => h.next hF)
  case hop =>
   refine ⟨?_, ?_⟩
   · rintro - w2 D2
     show OpOK _ _ _ _ _ _ _
     exact ok_val (ro_lit1 SufHeads_q51 rfl rfl rfl) (From.rfl_.new _) ⟨_, rfl, ⟨by simp, .inr ⟨_, 1, #[jV 0], rfl, (From.rfl_.next D2).size, heap_alloc_new _ _, Nat.le_refl _, by decide, by simp, by simp⟩⟩, D2.size⟩
   refine ⟨?_, ?_⟩
   · rintro - w3 D3
     show OpOK _ _ _ _ _ _ _
     exact ok_pure (ro_move (v := .pointer _) rfl) rfl
   refine ⟨?_, ?_⟩
   · rintro - w4 D4
     rintro _ rfl
     show OpOK _ _ _ _ _ _ _
     exact ok_pure (ro_nilCheck rfl) rfl
   refine ⟨?_, ?_⟩
   · rintro - w5 D5
     rintro _ rfl
     show OpOK _ _ _ _ _ _ _
     exact ok_pure (ro_fieldAddr SufHeads_f60_4 rfl) rfl
   refine ⟨?_, ?_⟩
   · rintro - w6 D6
     rintro _ rfl
     show OpOK _ _ _ _ _ _ _
     exact ok_pure (ro_load SufHeads_g51 rfl (by exact cellF (From.rfl_.next D6) (hb.rd 4 rfl))) rfl
   refine ⟨?_, ?_⟩
   · rintro - w7 D7
     show OpOK _ _ _ _ _ _ _
     exact ok_pure (ro_move (v := .pointer _) rfl) rfl
   refine ⟨?_, ?_⟩
   · rintro - w8 D8
     rintro _ rfl
     show OpOK _ _ _ _ _ _ _
     exact ok_pure (ro_nilCheck rfl) rfl
   refine ⟨?_, ?_⟩
   · rintro - w9 D9
     rintro _ rfl
     show OpOK _ _ _ _ _ _ _
     exact ok_pure (ro_fieldAddr SufHeads_f60_1 rfl) rfl
   refine ⟨?_, ?_⟩
   · rintro - w10 D10
     rintro _ rfl
     show OpOK _ _ _ _ _ _ _
     exact ok_pure (ro_load SufHeads_g3 rfl (by exact cellF (From.rfl_.next D10) (hb.rd 1 rfl))) rfl
   refine ⟨?_, ?_⟩
   · rintro - w11 D11
     rintro _ rfl
     show OpOK _ _ _ _ _ _ _
     exact ok_pure (ro_subN (b := 1) rfl rfl (by omega)) rfl
   refine ⟨?_, ?_⟩
   · rintro - w12 D12
     rintro _ rfl _ rfl
     show OpOK _ _ _ _ _ _ _
     exact ok_pure (ro_takeN (m := K - 1) SufHeads_e51 rfl rfl (by omega)) rfl
   refine ⟨?_, ?_⟩
   · intro h; cases h
   exact trivial
  case hmu =>
   rintro w14 D14
   rintro v14_3 ⟨q14, rfl, hq14, hz14⟩ _ rfl
   show MuOK _ _ _ _ _ _ _
   refine mu_append SufHeads_q51 rfl (by decide) rfl hq14 (From.rfl_.next D14).size rfl (by simp) ⟨_, _, rfl, (he.from_ (From.rfl_.next D14)).range (k := K - 1) (by omega)⟩ (by simp [Value.oneCell']) (by omega) (by omega) ?_
   intro A3 c3 w3 ho3 hg3
   exact ⟨D14.grew hg3 (fun k hk => by cases hk; exact hz14), ⟨A3, c3, by rw [show 1 + (K - 1) = K by omega], by rw [show 1 + (K - 1) = K by omega] at ho3; exact ho3⟩, fun t u ht h => muR_look (by repeat first | exact trivial | refine ⟨.inl rfl, ?_⟩ | refine ⟨.inr (fun _ h => h), ?_⟩) t u ht h⟩
  case hend =>
   rintro w15 D15
   rintro v3 _ _ rfl _ rfl _ rfl _ rfl _ rfl _ rfl _ rfl _ rfl _ rfl _ rfl v14 ⟨A14_15, c14_15, rfl, ho14_15⟩
   show St _ _ _ _ _ _ _
   rw [heads_list n K t hK0] at ho14_15
   obtain ⟨g, rfl⟩ := own_some ho14_15 hK0
   have hv := VJ.own ho14_15 hK0
   refine st_val (ro_assign (v := .slice _ _ _) rfl) ?_
   refine st_nil ?_
   refine nx_then ?_
   refine cd_ret ?_
   refine res1 (v := .slice _ _ _) rfl rfl ?_
   exact ⟨⟨g, _, rfl, hv.2, hv.1⟩, (From.rfl_.next D15)⟩
end Go.Proofs.Ytpafbgdbjambgaa
