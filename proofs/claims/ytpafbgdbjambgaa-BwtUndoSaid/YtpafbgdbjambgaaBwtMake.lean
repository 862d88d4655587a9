/- bwt: Make; the reference: Rows, Make. -/
import Derived.Test.YtpafbgdbjambgaaBwtAhead
namespace Go.Proofs.Ytpafbgdbjambgaa
open Go.RowKit
open Go.ChangeShapes Go.WideShapes Go.ChangeAt
open Go.Proofs.Ytpafbgdbjambgaa.SA
theorem BwtMake_e24 : elemQ Try.prog 24 = some (3, 1) := by kernel_rfl
theorem BwtMake_m24 : makeQ Try.prog 24 = some (3, 8, (.int .i64 0)) := by kernel_rfl
theorem BwtMake_q24 : litQ Try.prog 24 = some (3, 1, 8, (.int .i64 0)) := by kernel_rfl
theorem BwtMake_k19 : callable Try.prog 19 = true := by kernel_rfl
theorem BwtMake_l24 : (elemQ Try.prog 24).isSome = true := by kernel_rfl
theorem BwtMake_g3 : aggQ Try.prog 3 = some false := by kernel_rfl
section
variable {P : Program} {ρ : Operand → Value} {w : World} {t : TypeId} {x y : Operand}
/-- room for later -/
theorem ro_make0 {e by_ m : Nat} {z : Value} {kl kc : IntKind} (ht : makeQ P t = some (e, by_, z)) (hz : z.cells = #[z]) (hx : ρ x = .int kl 0) (hy : ρ y = .int kc (m : Nat)) (hm : m ≤ 9223372036854775807) (hb : by_ * m ≤ 281474976710656) :
    ∃ cs : Array Value, cs.size = m ∧ RO P ρ (.makeSlice t x y) w (.slice (some ⟨w.heap.size, 0, none⟩) 0 m) (w.alloc (.cells cs e)) := by
  unfold makeQ at ht
  split at ht
  · rename_i e' hu
    cases hi : P.info? e' with
    | none => simp [hi] at ht
    | some i =>
      rw [hi] at ht
      simp only [Option.bind_some] at ht
      split at ht
      · rename_i hs
        cases hzz : i.zero with
        | none => simp [hzz] at ht
        | some z' =>
          simp only [hzz, Option.map_some, Option.some.injEq, Prod.mk.injEq] at ht
          obtain ⟨rfl, rfl, rfl⟩ := ht
          have hr := run_make (P := P) w t e' i z' hu hi hzz kl kc 0 (m : Int) (by omega) (by omega) (by
            have : ((i.bytes * m : Nat) : Int) ≤ 281474976710656 := by omega
            rwa [Int.natCast_mul] at this) (by omega)
          rw [Int.toNat_natCast] at hr
          exact ⟨madeCells z'.cells (m * i.size), by simp [madeCells, hs], fun _ _ _ _ _ => by simp [execOp, hx, hy, hr]⟩
      · cases ht
  · cases ht
end
theorem ok_make0 {P : Program} {ρ : Operand → Value} {w : World} {t : TypeId} {x y : Operand} {e by_ m base : Nat} {z : Value} {kl kc : IntKind} (ht : makeQ P t = some (e, by_, z)) (hz : z.cells = #[z]) (hx : ρ x = .int kl 0) (hy : ρ y = .int kc (m : Nat)) (hm : m ≤ 9007199254740992) (hb : by_ * m ≤ 281474976710656) (hbs : base ≤ w.heap.size) :
    ∃ v w', RO P ρ (.makeSlice t x y) w v w' ∧ From w w' ∧ ∃ g, v = .slice (some ⟨g, 0, none⟩) 0 m ∧ w'.ownsRow base e 1 (.slice (some ⟨g, 0, none⟩) 0 m) 0 [] := by
  obtain ⟨cs, h1, h2⟩ := ro_make0 (w := w) ht hz hx hy (by omega) hb
  exact ⟨_, _, h2, From.rfl_.new _, _, rfl, by simp, .inr ⟨_, m, cs, rfl, hbs, heap_alloc_new _ _, Nat.zero_le _, by unfold maxLen; omega, by simpa using h1, by simp⟩⟩
theorem ok_ex {P : Program} {ops : Array Oper} {n : Fr} {L : List (Nat × Value)} {w : World} {d : Nat} {op : Op} {ty : TypeId} {pos : String} {after : Array Edge} {R : Value → World → Prop} (h : ∃ v w', RO P (ev n L) op w v w' ∧ From w w' ∧ R v w') : OpOK P ops n L ⟨d, op, ty, pos, after, none⟩ w R := by
  obtain ⟨v, w', a, b, c⟩ := h
  exact ok_val a b c
/-- what Make tells -/
def MakeA (w' : World) (base : Nat) (xs : List Int) (v : Value) : Prop :=
  (xs.all (okS 512) = false ∧ v = .tuple #[.slice none 0 0, .int .i64 0, .int .i64 1]) ∨
  (∃ L B a A' c', xs = cI L ∧ (∀ x ∈ L, x < 512) ∧ IsBw L B a ∧ v = .tuple #[.slice A' B.length c', .int .i64 (a : Nat), .int .i64 0] ∧ w'.ownsRow base 3 1 (.slice A' B.length c') B.length ((cI B).map iV))
theorem bw_nil : IsBw [] [] 0 := ⟨rfl, (rank_n []).symm, fun i hi hi2 => absurd hi2 (by simp; omega)⟩
theorem cI_push {B : List Nat} {x : Nat} : (cI (B ++ [x])).map iV = (cI B).map iV ++ [iV ((x : Nat) : Int)] := by simp [cI]
theorem rowS_cons {L F : List Nat} (i : Nat) : (L.length :: F).getD i 0 = rowS L F i := by
  cases i with
  | zero => rfl
  | succ i => rw [rowS_succ]; rfl
theorem SA.BwT.len_le {L F B : List Nat} {m a : Nat} (h : BwT L F m B a) : B.length ≤ m := by
  by_cases h0 : L = []
  · rw [(h.nil h0).1]; exact Nat.zero_le _
  · rcases Nat.eq_zero_or_pos a with e | e
    · rw [(h.no h0 e).1]; exact Nat.le_refl _
    · have := (h.yes h0 e).2.2.1; omega
set_option maxRecDepth 100000 in
set_option maxHeartbeats 4000000 in
theorem make_rt (A : Option Addr) (c n : Nat) (xs : List Int) (w : World) (hr : RowOf iV w A xs) (hn : n = xs.length) (hl : n ≤ 131072) :
    Rt Try.prog 9 [.slice A n c] w (fun v w' => MakeA w' w.heap.size xs v ∧ From w w') := by
  refine enter (n := 54) Try.func9 rfl rfl rfl ?_
  refine cd_seq ?_
  refine cd_region ?_
  refine st_val (ro_assign (v := .slice _ _ _) rfl) ?_
  refine st_val (ro_assign (v := .int _ _) rfl) ?_
  refine st_val (ro_assign (v := .int _ _) rfl) ?_
  refine st_nil ?_
  refine nx_then ?_
  refine cd_seq ?_
  refine cd_region ?_
  refine st_val (ro_move (v := .slice _ _ _) rfl) ?_
  refine st_call BwtMake_k19 (sort_rt A c n xs _ (hr.from_ From.rfl_) hn hl) ?_
  rintro v10 w1 ⟨hs10, E10⟩
  rcases hs10 with ⟨hbad, rfl⟩ | ⟨Ln, F, A', hLn, hlt, hSA, rfl, ho10⟩
  · refine st_val (ro_move (v := .tuple _) rfl) ?_
    refine st_val (ro_extract rfl rfl) ?_
    refine st_val (ro_extract rfl rfl) ?_
    refine st_val (ro_assign (v := .slice _ _ _) rfl) ?_
    refine st_val (ro_assign (v := .int _ _) rfl) ?_
    refine st_nil ?_
    refine nx_then ?_
    refine cd_seq ?_
    refine cd_seq ?_
    refine cd_region ?_
    refine st_val (ro_move (v := .int _ _) rfl) ?_
    refine st_val (ro_neq rfl rfl) ?_
    refine st_val (ro_move (v := .bool _) rfl) ?_
    refine st_split (t := 15) rfl (fun Q2 => ?_) (fun Q2 => ?_)
    · (try with_reducible first | replace Q2 := of_decide_eq_true Q2 | replace Q2 := of_decide_eq_false Q2 | replace Q2 := bn_t Q2 | replace Q2 := bn_f Q2)
      (try with_reducible first | replace Q2 := of_decide_eq_true Q2 | replace Q2 := of_decide_eq_false Q2 | replace Q2 := bx_t Q2 | replace Q2 := bx_f Q2 | replace Q2 := be_t Q2 | replace Q2 := be_f Q2)
      first
       | (exfalso; first | omega | contradiction | (cases Q2; done))
       | skip
         refine st_gno rfl rfl ?_
         refine st_gno rfl rfl ?_
         refine st_gno rfl rfl ?_
         refine st_val (ro_pickT (v := .bool _) rfl rfl) ?_
         refine st_nil ?_
         refine nx_then ?_
         refine cd_condT rfl ?_
         refine cd_seq ?_
         refine cd_region ?_
         refine st_val (ro_move (v := .int _ _) rfl) ?_
         refine st_val (ro_assign (v := .slice _ _ _) rfl) ?_
         refine st_val (ro_assign (v := .int _ _) rfl) ?_
         refine st_val (ro_assign (v := .int _ _) rfl) ?_
         refine st_nil ?_
         refine nx_then ?_
         refine cd_ret ?_
         refine rt_then ?_
         refine res3 (v := .slice _ _ _) (v' := .int _ _) (v'' := .int _ _) rfl rfl rfl rfl ?_
         first
           | exact ⟨.inl ⟨hbad, rfl⟩, (From.rfl_.next E10)⟩
           | (obtain rfl : Ln = [] := List.eq_nil_of_length_eq_zero (by omega)
              exact ⟨.inr ⟨[], [], 0, none, 0, hLn, hlt, bw_nil, rfl, World.ownsRow_nil _ _ _ _⟩, (From.rfl_.next E10)⟩)
    · (try with_reducible first | replace Q2 := of_decide_eq_true Q2 | replace Q2 := of_decide_eq_false Q2 | replace Q2 := bn_t Q2 | replace Q2 := bn_f Q2)
      (try with_reducible first | replace Q2 := of_decide_eq_true Q2 | replace Q2 := of_decide_eq_false Q2 | replace Q2 := bx_t Q2 | replace Q2 := bx_f Q2 | replace Q2 := be_t Q2 | replace Q2 := be_f Q2)
      first
       | (exfalso; first | omega | contradiction | (cases Q2; done))
       | skip
         refine st_unguard rfl ?_
         refine st_val (ro_move (v := .slice _ _ _) rfl) ?_
         refine st_unguard rfl ?_
         refine st_val (ro_len BwtMake_l24 rfl) ?_
         refine st_unguard rfl ?_
         refine st_val (ro_eql rfl rfl) ?_
         refine st_val (ro_pickF (v := .bool _) rfl rfl) ?_
         refine st_nil ?_
         refine nx_then ?_
         refine cd_cond rfl (fun Q3 => ?_) (fun Q3 => ?_)
         · (try with_reducible first | replace Q3 := of_decide_eq_true Q3 | replace Q3 := of_decide_eq_false Q3 | replace Q3 := bn_t Q3 | replace Q3 := bn_f Q3)
           (try with_reducible first | replace Q3 := of_decide_eq_true Q3 | replace Q3 := of_decide_eq_false Q3 | replace Q3 := bx_t Q3 | replace Q3 := bx_f Q3 | replace Q3 := be_t Q3 | replace Q3 := be_f Q3)
           first
            | (exfalso; first | omega | contradiction | (cases Q3; done))
            | skip
              refine cd_seq ?_
              refine cd_region ?_
              refine st_val (ro_move (v := .int _ _) rfl) ?_
              refine st_val (ro_assign (v := .slice _ _ _) rfl) ?_
              refine st_val (ro_assign (v := .int _ _) rfl) ?_
              refine st_val (ro_assign (v := .int _ _) rfl) ?_
              refine st_nil ?_
              refine nx_then ?_
              refine cd_ret ?_
              refine rt_then ?_
              refine res3 (v := .slice _ _ _) (v' := .int _ _) (v'' := .int _ _) rfl rfl rfl rfl ?_
              first
                | exact ⟨.inl ⟨hbad, rfl⟩, (From.rfl_.next E10)⟩
                | (obtain rfl : Ln = [] := List.eq_nil_of_length_eq_zero (by omega)
                   exact ⟨.inr ⟨[], [], 0, none, 0, hLn, hlt, bw_nil, rfl, World.ownsRow_nil _ _ _ _⟩, (From.rfl_.next E10)⟩)
         (try with_reducible first | replace Q3 := of_decide_eq_true Q3 | replace Q3 := of_decide_eq_false Q3 | replace Q3 := bn_t Q3 | replace Q3 := bn_f Q3)
         (try with_reducible first | replace Q3 := of_decide_eq_true Q3 | replace Q3 := of_decide_eq_false Q3 | replace Q3 := bx_t Q3 | replace Q3 := bx_f Q3 | replace Q3 := be_t Q3 | replace Q3 := be_f Q3)
         obtain ⟨bl, ol, rfl, hcl⟩ := rowD hrL (by omega)
         obtain ⟨bF, oF, rfl, hcF⟩ := rowD hrF (by omega)
         have hfirst : BwT Ln F 1 [Ln.getD (n - 1) 0] 0 := by
           have := BwT.zero.push hSA (Nat.zero_le _) (by rw [rowS_zero]; omega)
           rw [rowS_zero, hLl] at this
           exact this
         have hFz : From w1 w1 := From.rfl_
         have hT : BwT Ln F 0 [] 0 := BwT.zero
         first
          | (exfalso; first | omega | contradiction | (cases Q3; done))
          | skip
            refine cd_skip ?_
            refine nx_then ?_
            refine cd_seq ?_
            apply cd_mu 11 10 [23, 30] [(21, eqp _), (22, eqp _), (23, fun v w' => ∃ g, v = .slice (some ⟨g, 0, none⟩) 0 n ∧ w'.ownsRow w1.heap.size 3 1 (.slice (some ⟨g, 0, none⟩) 0 n) 0 []), (24, eqp _), (25, eqp _), (26, eqp _), (27, eqp _), (28, eqp _), (29, eqp _), (30, fun v w' => ∃ g, v = .slice (some ⟨g, 0, none⟩) 1 1 ∧ Blk w' g 3 #[.int .i64 ((Ln.getD (n - 1) 0 : Nat) : Int)]), (31, fun v w' => ∃ A3 c3, v = .slice A3 1 c3 ∧ w'.ownsRow w1.heap.size 3 1 (.slice A3 1 c3) 1 [iV ((Ln.getD (n - 1) 0 : Nat) : Int)])] (fun w' => From w1 w') (fun w' => From w1 w') (by repeat first | exact pq_body | refine pq_then ?_ | refine pq_block ?_) (by kernel_rfl) (by kernel_rfl) (by kernel_rfl) ⟨eqp_mono _, eqp_mono _, (fun _ _ _ hF ⟨g, h1, h2⟩ => ⟨g, h1, h2.kept_from hF⟩), eqp_mono _, eqp_mono _, eqp_mono _, eqp_mono _, eqp_mono _, eqp_mono _, (fun _ _ _ hF ⟨g, h1, h2⟩ => ⟨g, h1, h2.from_ hF⟩), (fun _ _ _ hF ⟨A2, c2, h1, h2⟩ => ⟨A2, c2, h1, h2.kept_from hF⟩), trivial⟩ (From.rfl_.d1) (From.rfl_.d1) (fun _ _ hF h => h.next hF) (fun _ _ hF h => h.next hF)
            case hop =>
             refine ⟨?_, ?_⟩
             · rintro - w5 D5
               show OpOK _ _ _ _ _ _ _
               exact ok_pure (ro_move (v := .slice _ _ _) rfl) rfl
             refine ⟨?_, ?_⟩
             · rintro - w6 D6
               rintro _ rfl
               show OpOK _ _ _ _ _ _ _
               exact ok_pure (ro_len BwtMake_l24 rfl) rfl
             refine ⟨?_, ?_⟩
             · rintro - w7 D7
               rintro _ rfl
               show OpOK _ _ _ _ _ _ _
               refine ok_ex (ok_make0 (m := n) (base := w1.heap.size) BwtMake_m24 rfl rfl rfl (by omega) (by omega) D7.size)
             refine ⟨?_, ?_⟩
             · rintro - w8 D8
               show OpOK _ _ _ _ _ _ _
               exact ok_pure (ro_move (v := .slice _ _ _) rfl) rfl
             refine ⟨?_, ?_⟩
             · rintro - w9 D9
               show OpOK _ _ _ _ _ _ _
               exact ok_pure (ro_move (v := .slice _ _ _) rfl) rfl
             refine ⟨?_, ?_⟩
             · rintro - w10 D10
               rintro _ rfl
               show OpOK _ _ _ _ _ _ _
               exact ok_pure (ro_len BwtMake_l24 rfl) rfl
             refine ⟨?_, ?_⟩
             · rintro - w11 D11
               rintro _ rfl
               show OpOK _ _ _ _ _ _ _
               exact ok_pure (ro_subN (b := 1) rfl rfl (by omega)) rfl
             refine ⟨?_, ?_⟩
             · rintro - w12 D12
               rintro _ rfl _ rfl
               show OpOK _ _ _ _ _ _ _
               exact ok_pure (ro_indexAddr1 BwtMake_e24 rfl rfl (by omega)) rfl
             refine ⟨?_, ?_⟩
             · rintro - w13 D13
               rintro _ rfl
               show OpOK _ _ _ _ _ _ _
               exact ok_pure (ro_load BwtMake_g3 rfl (by exact cellF (hBz.next D13) (hcl (n - 1) (by omega)))) rfl
             refine ⟨?_, ?_⟩
             · rintro - w14 D14
               rintro _ rfl
               show OpOK _ _ _ _ _ _ _
               exact ok_val (ro_lit1 BwtMake_q24 rfl rfl rfl) (From.rfl_.new _) ⟨_, rfl, Blk.new _ _ _⟩
             refine ⟨?_, ?_⟩
             · intro h; cases h
             exact trivial
            case hmu =>
             rintro w16 D16
             rintro v16_23 ⟨g23, rfl, ho23⟩ v16_30 ⟨b30, rfl, hk30⟩
             show MuOK _ _ _ _ _ _ _
             refine mu_append BwtMake_q24 rfl (by decide) rfl ho23 D16.size rfl rfl ⟨_, _, rfl, hk30.whole⟩ (by simp [Value.oneCell']) (by omega) (by omega) ?_
             intro A3 c3 w3 ho3 hg3
             exact ⟨D16.grew hg3 (fun k hk => (own_at ho23 k hk).1), ⟨A3, c3, rfl, ho3⟩, fun t u ht h => muR_look (by repeat first | exact trivial | refine ⟨.inl rfl, ?_⟩ | refine ⟨.inr (fun _ h => h), ?_⟩) t u ht h⟩
            case hend =>
             rintro w17 D17
             rintro _ rfl _ rfl v23 _ _ rfl _ rfl _ rfl _ rfl _ rfl _ rfl v30 _ v31 ⟨A31, c31, rfl, ho31⟩
             show St _ _ _ _ _ _ _
             have HF31 := D17
             refine st_val (ro_assign (v := .slice _ _ _) rfl) ?_
             refine st_nil ?_
             refine nx_then ?_
             refine cd_seq ?_
             refine cd_seq ?_
             refine cd_region ?_
             refine st_val (ro_move (v := .slice _ _ _) rfl) ?_
             refine st_val (ro_len BwtMake_l24 rfl) ?_
             refine st_val (ro_move (v := .int _ _) rfl) ?_
             refine st_nil ?_
             refine nx_then ?_
             refine cd_block ?_
             refine cd_loop (G := Nat × List Nat × Option Addr × Nat × Nat) [6, 7, 35, 36, 37, 38, 39, 40, 41, 42, 43, 44, 45, 46, 47, 48, 49, 50, 51] (fun (k, Bs, A2, c2, a) => [(2, .slice A2 Bs.length c2), (3, .int .i64 (a : Nat)), (34, .int .i64 (k : Nat))]) (fun (k, Bs, A2, c2, a) w' => k ≤ n ∧ BwT Ln F (k + 1) Bs a ∧ w'.ownsRow w1.heap.size 3 1 (.slice A2 Bs.length c2) Bs.length ((cI Bs).map iV) ∧ From w1 w') (fun (k, _) => n - k) ((0, [Ln.getD (n - 1) 0], A31, c31, 0)) ⟨rfl, rfl, rfl, trivial⟩ ?_ ?_
             · exact ⟨Nat.zero_le _, hfirst, by simpa [cI] using ho31.kept_from From.rfl_, HF31.next From.rfl_⟩
             rintro ⟨k, Bs, A2, c2, a⟩ ρ18 w18 ⟨hk, hT, ho, hFz⟩
             refine cd_seq ?_
             refine cd_region ?_
             refine st_val (ro_lss rfl rfl) ?_
             refine st_nil ?_
             refine nx_then ?_
             refine cd_seq ?_
             refine cd_cond rfl (fun Q19 => ?_) (fun Q19 => ?_)
             · (try with_reducible first | replace Q19 := of_decide_eq_true Q19 | replace Q19 := of_decide_eq_false Q19 | replace Q19 := bn_t Q19 | replace Q19 := bn_f Q19)
               (try with_reducible first | replace Q19 := of_decide_eq_true Q19 | replace Q19 := of_decide_eq_false Q19 | replace Q19 := bx_t Q19 | replace Q19 := bx_f Q19 | replace Q19 := be_t Q19 | replace Q19 := be_f Q19)
               have hfk := (isSA_getD hSA (show k < Ln.length by omega)).1
               first
                | (exfalso; first | omega | contradiction | (cases Q19; done))
                | skip
                  refine cd_skip ?_
                  refine nx_then ?_
                  refine cd_cut (G := List Nat × Option Addr × Nat × Nat) [6, 7, 36, 37, 38, 39, 40, 41, 42, 43, 44, 45, 46, 47, 48, 49, 50] (fun (Bs', A2', c2', a') => [(2, .slice A2' Bs'.length c2'), (3, .int .i64 (a' : Nat))]) (fun (Bs', A2', c2', a') w' => BwT Ln F (k + 1 + 1) Bs' a' ∧ w'.ownsRow w1.heap.size 3 1 (.slice A2' Bs'.length c2') Bs'.length ((cI Bs').map iV) ∧ From w1 w') ?_ ?_
                  · refine cd_block ?_
                    refine cd_seq ?_
                    refine cd_region ?_
                    refine st_val (ro_move (v := .int _ _) rfl) ?_
                    refine st_val (ro_indexAddr1 BwtMake_e24 rfl rfl (by omega)) ?_
                    refine st_val (ro_load BwtMake_g3 rfl (by exact cellF (hFz.next From.rfl_) (hcF k (by omega)))) ?_
                    refine st_val (ro_assign (v := .int _ _) rfl) ?_
                    refine st_val (ro_assign (v := .int _ _) rfl) ?_
                    refine st_nil ?_
                    refine nx_then ?_
                    refine cd_seq ?_
                    refine cd_seq ?_
                    refine cd_region ?_
                    refine st_val (ro_move (v := .int _ _) rfl) ?_
                    refine st_val (ro_eql rfl rfl) ?_
                    refine st_nil ?_
                    refine nx_then ?_
                    refine cd_cond rfl (fun Q20 => ?_) (fun Q20 => ?_)
                    · (try with_reducible first | replace Q20 := of_decide_eq_true Q20 | replace Q20 := of_decide_eq_false Q20 | replace Q20 := bn_t Q20 | replace Q20 := bn_f Q20)
                      (try with_reducible first | replace Q20 := of_decide_eq_true Q20 | replace Q20 := of_decide_eq_false Q20 | replace Q20 := bx_t Q20 | replace Q20 := bx_f Q20 | replace Q20 := be_t Q20 | replace Q20 := be_f Q20)
                      first
                       | (exfalso; first | omega | contradiction | (cases Q20; done))
                       | skip
                         refine cd_seq ?_
                         refine cd_region ?_
                         refine st_val (ro_move (v := .int _ _) rfl) ?_
                         refine st_val (ro_addN (b := 1) rfl rfl (by omega)) ?_
                         refine st_val (ro_assign (v := .int _ _) rfl) ?_
                         refine st_nil ?_
                         refine nx_then ?_
                         refine cd_exit ?_
                         refine ex_then ?_
                         refine ex_block ?_
                         refine nx_cut ((Bs, A2, c2, k + 1)) ⟨rfl, rfl, trivial⟩ (by (iterate 10 refine agr_cons rfl ?_); exact agr_rfl) ?_
                         exact ⟨hT.skip hSA (by omega) (by rw [rowS_succ]; omega), ho.kept_from From.rfl_, hFz.next From.rfl_⟩
                    (try with_reducible first | replace Q20 := of_decide_eq_true Q20 | replace Q20 := of_decide_eq_false Q20 | replace Q20 := bn_t Q20 | replace Q20 := bn_f Q20)
                    (try with_reducible first | replace Q20 := of_decide_eq_true Q20 | replace Q20 := of_decide_eq_false Q20 | replace Q20 := bx_t Q20 | replace Q20 := bx_f Q20 | replace Q20 := be_t Q20 | replace Q20 := be_f Q20)
                    first
                     | (exfalso; first | omega | contradiction | (cases Q20; done))
                     | skip
                       refine cd_skip ?_
                       refine nx_then ?_
                       refine cd_region ?_
                       refine st_val (ro_move (v := .slice _ _ _) rfl) ?_
                       refine st_val (ro_move (v := .slice _ _ _) rfl) ?_
                       refine st_val (ro_move (v := .int _ _) rfl) ?_
                       refine st_val (ro_subN (b := 1) rfl rfl (by omega)) ?_
                       refine st_val (ro_indexAddr1 BwtMake_e24 rfl rfl (by omega)) ?_
                       refine st_val (ro_load BwtMake_g3 rfl (by exact cellF (hBz.next hFz) (hcl (F.getD k 0 - 1) (by omega)))) ?_
                       refine st_lit1 (v := .int _ _) BwtMake_q24 rfl rfl rfl ?_
                       intro b49 w21 E49 hb49 hk49
                       have hap50 := hT.len_le
                       refine st_appendB BwtMake_q24 rfl (by decide) rfl (A := A2) (xs := (cI Bs).map iV) (news := [iV ((Ln.getD (F.getD k 0 - 1) 0 : Nat) : Int)]) (ho.kept_from (From.rfl_.next E49)) ((hFz.next (From.rfl_.next E49)).size) rfl rfl (fun _ => ⟨b49, 0, rfl, hk49.whole⟩) (fun h => by cases h) (by simp [Value.oneCell']) (by omega) (by omega) ?_
                       intro A50 c50 w22 ho50 hg50
                       have HF50 := (hFz.next (From.rfl_.next E49)).grew hg50 (fun k hk => (own_at (ho.kept_from (From.rfl_.next E49)) k hk).1)
                       refine st_val (ro_assign (v := .slice _ _ _) rfl) ?_
                       refine st_nil ?_
                       refine nx_block ?_
                       refine nx_cut ((Bs ++ [Ln.getD (F.getD k 0 - 1) 0], A50, c50, a)) ⟨(by rw [List.length_append]; rfl), rfl, trivial⟩ (by (iterate 16 refine agr_cons rfl ?_); exact agr_rfl) ?_
                       exact ⟨by have := hT.push hSA (by omega) (by rw [rowS_succ]; omega); rw [rowS_succ] at this; exact this, by rw [List.length_append, cI_push]; exact ho50.kept_from From.rfl_, HF50.next From.rfl_⟩
                  rintro ⟨Bs', A2', c2', a'⟩ ρ23 w23 ⟨hT', ho', hFz'⟩
                  refine cd_region ?_
                  refine st_val (ro_add64 rfl rfl (by omega)) ?_
                  refine st_val (ro_move (v := .int _ _) rfl) ?_
                  refine st_nil ?_
                  refine nx_cut ((k + 1, Bs', A2', c2', a')) ⟨(by first | rfl | (refine int_eq ?_; omega)), (by first | rfl | (refine int_eq ?_; omega)), (by first | rfl | (refine int_eq ?_; omega)), trivial⟩ (by (iterate 44 refine agr_cons rfl ?_); exact agr_rfl) ⟨?_, ?_⟩
                  · exact ⟨by omega, hT', ho'.kept_from From.rfl_, hFz'.next From.rfl_⟩
                  · show n - (k + 1) < n - k; omega
             (try with_reducible first | replace Q19 := of_decide_eq_true Q19 | replace Q19 := of_decide_eq_false Q19 | replace Q19 := bn_t Q19 | replace Q19 := bn_f Q19)
             (try with_reducible first | replace Q19 := of_decide_eq_true Q19 | replace Q19 := of_decide_eq_false Q19 | replace Q19 := bx_t Q19 | replace Q19 := bx_f Q19 | replace Q19 := be_t Q19 | replace Q19 := be_f Q19)
             first
              | (exfalso; first | omega | contradiction | (cases Q19; done))
              | skip
                refine cd_exit ?_
                refine ex_then ?_
                refine ex_then ?_
                refine ex_block ?_
                refine nx_then ?_
                refine cd_seq ?_
                refine cd_region ?_
                refine st_val (ro_move (v := .slice _ _ _) rfl) ?_
                refine st_val (ro_move (v := .int _ _) rfl) ?_
                refine st_val (ro_assign (v := .slice _ _ _) rfl) ?_
                refine st_val (ro_assign (v := .int _ _) rfl) ?_
                refine st_val (ro_assign (v := .int _ _) rfl) ?_
                refine st_nil ?_
                refine nx_then ?_
                refine cd_ret ?_
                refine res3 (v := .slice _ _ _) (v' := .int _ _) (v'' := .int _ _) rfl rfl rfl rfl ?_
                obtain rfl : n = k := by omega
                have hb := (show BwT Ln F (Ln.length + 1) Bs a by rw [hLl]; exact hT).fin hSA
                exact ⟨.inr ⟨Ln, Bs, a, A2, c2, hLn, hlt, hb, rfl, own_le (ho.kept_from From.rfl_) hBz.size⟩, (hBz.next hFz)⟩
  · have hLl : Ln.length = n := by rw [hn, hLn, List.length_map]
    have hBz : From w w1 := E10
    have hrF := (sortA_own ho10).2
    have hFl := hSA.len
    have hrL : RowOf iV w A (cI Ln) := by rw [cI, ← hLn]; exact hr
    refine st_val (ro_move (v := .tuple _) rfl) ?_
    refine st_val (ro_extract rfl rfl) ?_
    refine st_val (ro_extract rfl rfl) ?_
    refine st_val (ro_assign (v := .slice _ _ _) rfl) ?_
    refine st_val (ro_assign (v := .int _ _) rfl) ?_
    refine st_nil ?_
    refine nx_then ?_
    refine cd_seq ?_
    refine cd_seq ?_
    refine cd_region ?_
    refine st_val (ro_move (v := .int _ _) rfl) ?_
    refine st_val (ro_neq rfl rfl) ?_
    refine st_val (ro_move (v := .bool _) rfl) ?_
    refine st_split (t := 15) rfl (fun Q24 => ?_) (fun Q24 => ?_)
    · (try with_reducible first | replace Q24 := of_decide_eq_true Q24 | replace Q24 := of_decide_eq_false Q24 | replace Q24 := bn_t Q24 | replace Q24 := bn_f Q24)
      (try with_reducible first | replace Q24 := of_decide_eq_true Q24 | replace Q24 := of_decide_eq_false Q24 | replace Q24 := bx_t Q24 | replace Q24 := bx_f Q24 | replace Q24 := be_t Q24 | replace Q24 := be_f Q24)
      first
       | (exfalso; first | omega | contradiction | (cases Q24; done))
       | skip
         refine st_gno rfl rfl ?_
         refine st_gno rfl rfl ?_
         refine st_gno rfl rfl ?_
         refine st_val (ro_pickT (v := .bool _) rfl rfl) ?_
         refine st_nil ?_
         refine nx_then ?_
         refine cd_condT rfl ?_
         refine cd_seq ?_
         refine cd_region ?_
         refine st_val (ro_move (v := .int _ _) rfl) ?_
         refine st_val (ro_assign (v := .slice _ _ _) rfl) ?_
         refine st_val (ro_assign (v := .int _ _) rfl) ?_
         refine st_val (ro_assign (v := .int _ _) rfl) ?_
         refine st_nil ?_
         refine nx_then ?_
         refine cd_ret ?_
         refine rt_then ?_
         refine res3 (v := .slice _ _ _) (v' := .int _ _) (v'' := .int _ _) rfl rfl rfl rfl ?_
         first
           | exact ⟨.inl ⟨hbad, rfl⟩, (From.rfl_.next E10)⟩
           | (obtain rfl : Ln = [] := List.eq_nil_of_length_eq_zero (by omega)
              exact ⟨.inr ⟨[], [], 0, none, 0, hLn, hlt, bw_nil, rfl, World.ownsRow_nil _ _ _ _⟩, (From.rfl_.next E10)⟩)
    · (try with_reducible first | replace Q24 := of_decide_eq_true Q24 | replace Q24 := of_decide_eq_false Q24 | replace Q24 := bn_t Q24 | replace Q24 := bn_f Q24)
      (try with_reducible first | replace Q24 := of_decide_eq_true Q24 | replace Q24 := of_decide_eq_false Q24 | replace Q24 := bx_t Q24 | replace Q24 := bx_f Q24 | replace Q24 := be_t Q24 | replace Q24 := be_f Q24)
      first
       | (exfalso; first | omega | contradiction | (cases Q24; done))
       | skip
         refine st_unguard rfl ?_
         refine st_val (ro_move (v := .slice _ _ _) rfl) ?_
         refine st_unguard rfl ?_
         refine st_val (ro_len BwtMake_l24 rfl) ?_
         refine st_unguard rfl ?_
         refine st_val (ro_eql rfl rfl) ?_
         refine st_val (ro_pickF (v := .bool _) rfl rfl) ?_
         refine st_nil ?_
         refine nx_then ?_
         refine cd_cond rfl (fun Q25 => ?_) (fun Q25 => ?_)
         · (try with_reducible first | replace Q25 := of_decide_eq_true Q25 | replace Q25 := of_decide_eq_false Q25 | replace Q25 := bn_t Q25 | replace Q25 := bn_f Q25)
           (try with_reducible first | replace Q25 := of_decide_eq_true Q25 | replace Q25 := of_decide_eq_false Q25 | replace Q25 := bx_t Q25 | replace Q25 := bx_f Q25 | replace Q25 := be_t Q25 | replace Q25 := be_f Q25)
           first
            | (exfalso; first | omega | contradiction | (cases Q25; done))
            | skip
              refine cd_seq ?_
              refine cd_region ?_
              refine st_val (ro_move (v := .int _ _) rfl) ?_
              refine st_val (ro_assign (v := .slice _ _ _) rfl) ?_
              refine st_val (ro_assign (v := .int _ _) rfl) ?_
              refine st_val (ro_assign (v := .int _ _) rfl) ?_
              refine st_nil ?_
              refine nx_then ?_
              refine cd_ret ?_
              refine rt_then ?_
              refine res3 (v := .slice _ _ _) (v' := .int _ _) (v'' := .int _ _) rfl rfl rfl rfl ?_
              first
                | exact ⟨.inl ⟨hbad, rfl⟩, (From.rfl_.next E10)⟩
                | (obtain rfl : Ln = [] := List.eq_nil_of_length_eq_zero (by omega)
                   exact ⟨.inr ⟨[], [], 0, none, 0, hLn, hlt, bw_nil, rfl, World.ownsRow_nil _ _ _ _⟩, (From.rfl_.next E10)⟩)
         (try with_reducible first | replace Q25 := of_decide_eq_true Q25 | replace Q25 := of_decide_eq_false Q25 | replace Q25 := bn_t Q25 | replace Q25 := bn_f Q25)
         (try with_reducible first | replace Q25 := of_decide_eq_true Q25 | replace Q25 := of_decide_eq_false Q25 | replace Q25 := bx_t Q25 | replace Q25 := bx_f Q25 | replace Q25 := be_t Q25 | replace Q25 := be_f Q25)
         obtain ⟨bl, ol, rfl, hcl⟩ := rowD hrL (by omega)
         obtain ⟨bF, oF, rfl, hcF⟩ := rowD hrF (by omega)
         have hfirst : BwT Ln F 1 [Ln.getD (n - 1) 0] 0 := by
           have := BwT.zero.push hSA (Nat.zero_le _) (by rw [rowS_zero]; omega)
           rw [rowS_zero, hLl] at this
           exact this
         have hFz : From w1 w1 := From.rfl_
         have hT : BwT Ln F 0 [] 0 := BwT.zero
         first
          | (exfalso; first | omega | contradiction | (cases Q25; done))
          | skip
            refine cd_skip ?_
            refine nx_then ?_
            refine cd_seq ?_
            apply cd_mu 11 10 [23, 30] [(21, eqp _), (22, eqp _), (23, fun v w' => ∃ g, v = .slice (some ⟨g, 0, none⟩) 0 n ∧ w'.ownsRow w1.heap.size 3 1 (.slice (some ⟨g, 0, none⟩) 0 n) 0 []), (24, eqp _), (25, eqp _), (26, eqp _), (27, eqp _), (28, eqp _), (29, eqp _), (30, fun v w' => ∃ g, v = .slice (some ⟨g, 0, none⟩) 1 1 ∧ Blk w' g 3 #[.int .i64 ((Ln.getD (n - 1) 0 : Nat) : Int)]), (31, fun v w' => ∃ A3 c3, v = .slice A3 1 c3 ∧ w'.ownsRow w1.heap.size 3 1 (.slice A3 1 c3) 1 [iV ((Ln.getD (n - 1) 0 : Nat) : Int)])] (fun w' => From w1 w') (fun w' => From w1 w') (by repeat first | exact pq_body | refine pq_then ?_ | refine pq_block ?_) (by kernel_rfl) (by kernel_rfl) (by kernel_rfl) ⟨eqp_mono _, eqp_mono _, (fun _ _ _ hF ⟨g, h1, h2⟩ => ⟨g, h1, h2.kept_from hF⟩), eqp_mono _, eqp_mono _, eqp_mono _, eqp_mono _, eqp_mono _, eqp_mono _, (fun _ _ _ hF ⟨g, h1, h2⟩ => ⟨g, h1, h2.from_ hF⟩), (fun _ _ _ hF ⟨A2, c2, h1, h2⟩ => ⟨A2, c2, h1, h2.kept_from hF⟩), trivial⟩ (From.rfl_.d1) (From.rfl_.d1) (fun _ _ hF h => h.next hF) (fun _ _ hF h => h.next hF)
            case hop =>
             refine ⟨?_, ?_⟩
             · rintro - w27 D27
               show OpOK _ _ _ _ _ _ _
               exact ok_pure (ro_move (v := .slice _ _ _) rfl) rfl
             refine ⟨?_, ?_⟩
             · rintro - w28 D28
               rintro _ rfl
               show OpOK _ _ _ _ _ _ _
               exact ok_pure (ro_len BwtMake_l24 rfl) rfl
             refine ⟨?_, ?_⟩
             · rintro - w29 D29
               rintro _ rfl
               show OpOK _ _ _ _ _ _ _
               refine ok_ex (ok_make0 (m := n) (base := w1.heap.size) BwtMake_m24 rfl rfl rfl (by omega) (by omega) D29.size)
             refine ⟨?_, ?_⟩
             · rintro - w30 D30
               show OpOK _ _ _ _ _ _ _
               exact ok_pure (ro_move (v := .slice _ _ _) rfl) rfl
             refine ⟨?_, ?_⟩
             · rintro - w31 D31
               show OpOK _ _ _ _ _ _ _
               exact ok_pure (ro_move (v := .slice _ _ _) rfl) rfl
             refine ⟨?_, ?_⟩
             · rintro - w32 D32
               rintro _ rfl
               show OpOK _ _ _ _ _ _ _
               exact ok_pure (ro_len BwtMake_l24 rfl) rfl
             refine ⟨?_, ?_⟩
             · rintro - w33 D33
               rintro _ rfl
               show OpOK _ _ _ _ _ _ _
               exact ok_pure (ro_subN (b := 1) rfl rfl (by omega)) rfl
             refine ⟨?_, ?_⟩
             · rintro - w34 D34
               rintro _ rfl _ rfl
               show OpOK _ _ _ _ _ _ _
               exact ok_pure (ro_indexAddr1 BwtMake_e24 rfl rfl (by omega)) rfl
             refine ⟨?_, ?_⟩
             · rintro - w35 D35
               rintro _ rfl
               show OpOK _ _ _ _ _ _ _
               exact ok_pure (ro_load BwtMake_g3 rfl (by exact cellF (hBz.next D35) (hcl (n - 1) (by omega)))) rfl
             refine ⟨?_, ?_⟩
             · rintro - w36 D36
               rintro _ rfl
               show OpOK _ _ _ _ _ _ _
               exact ok_val (ro_lit1 BwtMake_q24 rfl rfl rfl) (From.rfl_.new _) ⟨_, rfl, Blk.new _ _ _⟩
             refine ⟨?_, ?_⟩
             · intro h; cases h
             exact trivial
            case hmu =>
             rintro w38 D38
             rintro v38_23 ⟨g23, rfl, ho23⟩ v38_30 ⟨b30, rfl, hk30⟩
             show MuOK _ _ _ _ _ _ _
             refine mu_append BwtMake_q24 rfl (by decide) rfl ho23 D38.size rfl rfl ⟨_, _, rfl, hk30.whole⟩ (by simp [Value.oneCell']) (by omega) (by omega) ?_
             intro A3 c3 w3 ho3 hg3
             exact ⟨D38.grew hg3 (fun k hk => (own_at ho23 k hk).1), ⟨A3, c3, rfl, ho3⟩, fun t u ht h => muR_look (by repeat first | exact trivial | refine ⟨.inl rfl, ?_⟩ | refine ⟨.inr (fun _ h => h), ?_⟩) t u ht h⟩
            case hend =>
             rintro w39 D39
             rintro _ rfl _ rfl v23 _ _ rfl _ rfl _ rfl _ rfl _ rfl _ rfl v30 _ v31 ⟨A31, c31, rfl, ho31⟩
             show St _ _ _ _ _ _ _
             have HF31 := D39
             refine st_val (ro_assign (v := .slice _ _ _) rfl) ?_
             refine st_nil ?_
             refine nx_then ?_
             refine cd_seq ?_
             refine cd_seq ?_
             refine cd_region ?_
             refine st_val (ro_move (v := .slice _ _ _) rfl) ?_
             refine st_val (ro_len BwtMake_l24 rfl) ?_
             refine st_val (ro_move (v := .int _ _) rfl) ?_
             refine st_nil ?_
             refine nx_then ?_
             refine cd_block ?_
             refine cd_loop (G := Nat × List Nat × Option Addr × Nat × Nat) [6, 7, 35, 36, 37, 38, 39, 40, 41, 42, 43, 44, 45, 46, 47, 48, 49, 50, 51] (fun (k, Bs, A2, c2, a) => [(2, .slice A2 Bs.length c2), (3, .int .i64 (a : Nat)), (34, .int .i64 (k : Nat))]) (fun (k, Bs, A2, c2, a) w' => k ≤ n ∧ BwT Ln F (k + 1) Bs a ∧ w'.ownsRow w1.heap.size 3 1 (.slice A2 Bs.length c2) Bs.length ((cI Bs).map iV) ∧ From w1 w') (fun (k, _) => n - k) ((0, [Ln.getD (n - 1) 0], A31, c31, 0)) ⟨rfl, rfl, rfl, trivial⟩ ?_ ?_
             · exact ⟨Nat.zero_le _, hfirst, by simpa [cI] using ho31.kept_from From.rfl_, HF31.next From.rfl_⟩
             rintro ⟨k, Bs, A2, c2, a⟩ ρ40 w40 ⟨hk, hT, ho, hFz⟩
             refine cd_seq ?_
             refine cd_region ?_
             refine st_val (ro_lss rfl rfl) ?_
             refine st_nil ?_
             refine nx_then ?_
             refine cd_seq ?_
             refine cd_cond rfl (fun Q41 => ?_) (fun Q41 => ?_)
             · (try with_reducible first | replace Q41 := of_decide_eq_true Q41 | replace Q41 := of_decide_eq_false Q41 | replace Q41 := bn_t Q41 | replace Q41 := bn_f Q41)
               (try with_reducible first | replace Q41 := of_decide_eq_true Q41 | replace Q41 := of_decide_eq_false Q41 | replace Q41 := bx_t Q41 | replace Q41 := bx_f Q41 | replace Q41 := be_t Q41 | replace Q41 := be_f Q41)
               have hfk := (isSA_getD hSA (show k < Ln.length by omega)).1
               first
                | (exfalso; first | omega | contradiction | (cases Q41; done))
                | skip
                  refine cd_skip ?_
                  refine nx_then ?_
                  refine cd_cut (G := List Nat × Option Addr × Nat × Nat) [6, 7, 36, 37, 38, 39, 40, 41, 42, 43, 44, 45, 46, 47, 48, 49, 50] (fun (Bs', A2', c2', a') => [(2, .slice A2' Bs'.length c2'), (3, .int .i64 (a' : Nat))]) (fun (Bs', A2', c2', a') w' => BwT Ln F (k + 1 + 1) Bs' a' ∧ w'.ownsRow w1.heap.size 3 1 (.slice A2' Bs'.length c2') Bs'.length ((cI Bs').map iV) ∧ From w1 w') ?_ ?_
                  · refine cd_block ?_
                    refine cd_seq ?_
                    refine cd_region ?_
                    refine st_val (ro_move (v := .int _ _) rfl) ?_
                    refine st_val (ro_indexAddr1 BwtMake_e24 rfl rfl (by omega)) ?_
                    refine st_val (ro_load BwtMake_g3 rfl (by exact cellF (hFz.next From.rfl_) (hcF k (by omega)))) ?_
                    refine st_val (ro_assign (v := .int _ _) rfl) ?_
                    refine st_val (ro_assign (v := .int _ _) rfl) ?_
                    refine st_nil ?_
                    refine nx_then ?_
                    refine cd_seq ?_
                    refine cd_seq ?_
                    refine cd_region ?_
                    refine st_val (ro_move (v := .int _ _) rfl) ?_
                    refine st_val (ro_eql rfl rfl) ?_
                    refine st_nil ?_
                    refine nx_then ?_
                    refine cd_cond rfl (fun Q42 => ?_) (fun Q42 => ?_)
                    · (try with_reducible first | replace Q42 := of_decide_eq_true Q42 | replace Q42 := of_decide_eq_false Q42 | replace Q42 := bn_t Q42 | replace Q42 := bn_f Q42)
                      (try with_reducible first | replace Q42 := of_decide_eq_true Q42 | replace Q42 := of_decide_eq_false Q42 | replace Q42 := bx_t Q42 | replace Q42 := bx_f Q42 | replace Q42 := be_t Q42 | replace Q42 := be_f Q42)
                      first
                       | (exfalso; first | omega | contradiction | (cases Q42; done))
                       | skip
                         refine cd_seq ?_
                         refine cd_region ?_
                         refine st_val (ro_move (v := .int _ _) rfl) ?_
                         refine st_val (ro_addN (b := 1) rfl rfl (by omega)) ?_
                         refine st_val (ro_assign (v := .int _ _) rfl) ?_
                         refine st_nil ?_
                         refine nx_then ?_
                         refine cd_exit ?_
                         refine ex_then ?_
                         refine ex_block ?_
                         refine nx_cut ((Bs, A2, c2, k + 1)) ⟨rfl, rfl, trivial⟩ (by (iterate 10 refine agr_cons rfl ?_); exact agr_rfl) ?_
                         exact ⟨hT.skip hSA (by omega) (by rw [rowS_succ]; omega), ho.kept_from From.rfl_, hFz.next From.rfl_⟩
                    (try with_reducible first | replace Q42 := of_decide_eq_true Q42 | replace Q42 := of_decide_eq_false Q42 | replace Q42 := bn_t Q42 | replace Q42 := bn_f Q42)
                    (try with_reducible first | replace Q42 := of_decide_eq_true Q42 | replace Q42 := of_decide_eq_false Q42 | replace Q42 := bx_t Q42 | replace Q42 := bx_f Q42 | replace Q42 := be_t Q42 | replace Q42 := be_f Q42)
                    first
                     | (exfalso; first | omega | contradiction | (cases Q42; done))
                     | skip
                       refine cd_skip ?_
                       refine nx_then ?_
                       refine cd_region ?_
                       refine st_val (ro_move (v := .slice _ _ _) rfl) ?_
                       refine st_val (ro_move (v := .slice _ _ _) rfl) ?_
                       refine st_val (ro_move (v := .int _ _) rfl) ?_
                       refine st_val (ro_subN (b := 1) rfl rfl (by omega)) ?_
                       refine st_val (ro_indexAddr1 BwtMake_e24 rfl rfl (by omega)) ?_
                       refine st_val (ro_load BwtMake_g3 rfl (by exact cellF (hBz.next hFz) (hcl (F.getD k 0 - 1) (by omega)))) ?_
                       refine st_lit1 (v := .int _ _) BwtMake_q24 rfl rfl rfl ?_
                       intro b49 w43 E49 hb49 hk49
                       have hap50 := hT.len_le
                       refine st_appendB BwtMake_q24 rfl (by decide) rfl (A := A2) (xs := (cI Bs).map iV) (news := [iV ((Ln.getD (F.getD k 0 - 1) 0 : Nat) : Int)]) (ho.kept_from (From.rfl_.next E49)) ((hFz.next (From.rfl_.next E49)).size) rfl rfl (fun _ => ⟨b49, 0, rfl, hk49.whole⟩) (fun h => by cases h) (by simp [Value.oneCell']) (by omega) (by omega) ?_
                       intro A50 c50 w44 ho50 hg50
                       have HF50 := (hFz.next (From.rfl_.next E49)).grew hg50 (fun k hk => (own_at (ho.kept_from (From.rfl_.next E49)) k hk).1)
                       refine st_val (ro_assign (v := .slice _ _ _) rfl) ?_
                       refine st_nil ?_
                       refine nx_block ?_
                       refine nx_cut ((Bs ++ [Ln.getD (F.getD k 0 - 1) 0], A50, c50, a)) ⟨(by rw [List.length_append]; rfl), rfl, trivial⟩ (by (iterate 16 refine agr_cons rfl ?_); exact agr_rfl) ?_
                       exact ⟨by have := hT.push hSA (by omega) (by rw [rowS_succ]; omega); rw [rowS_succ] at this; exact this, by rw [List.length_append, cI_push]; exact ho50.kept_from From.rfl_, HF50.next From.rfl_⟩
                  rintro ⟨Bs', A2', c2', a'⟩ ρ45 w45 ⟨hT', ho', hFz'⟩
                  refine cd_region ?_
                  refine st_val (ro_add64 rfl rfl (by omega)) ?_
                  refine st_val (ro_move (v := .int _ _) rfl) ?_
                  refine st_nil ?_
                  refine nx_cut ((k + 1, Bs', A2', c2', a')) ⟨(by first | rfl | (refine int_eq ?_; omega)), (by first | rfl | (refine int_eq ?_; omega)), (by first | rfl | (refine int_eq ?_; omega)), trivial⟩ (by (iterate 44 refine agr_cons rfl ?_); exact agr_rfl) ⟨?_, ?_⟩
                  · exact ⟨by omega, hT', ho'.kept_from From.rfl_, hFz'.next From.rfl_⟩
                  · show n - (k + 1) < n - k; omega
             (try with_reducible first | replace Q41 := of_decide_eq_true Q41 | replace Q41 := of_decide_eq_false Q41 | replace Q41 := bn_t Q41 | replace Q41 := bn_f Q41)
             (try with_reducible first | replace Q41 := of_decide_eq_true Q41 | replace Q41 := of_decide_eq_false Q41 | replace Q41 := bx_t Q41 | replace Q41 := bx_f Q41 | replace Q41 := be_t Q41 | replace Q41 := be_f Q41)
             first
              | (exfalso; first | omega | contradiction | (cases Q41; done))
              | skip
                refine cd_exit ?_
                refine ex_then ?_
                refine ex_then ?_
                refine ex_block ?_
                refine nx_then ?_
                refine cd_seq ?_
                refine cd_region ?_
                refine st_val (ro_move (v := .slice _ _ _) rfl) ?_
                refine st_val (ro_move (v := .int _ _) rfl) ?_
                refine st_val (ro_assign (v := .slice _ _ _) rfl) ?_
                refine st_val (ro_assign (v := .int _ _) rfl) ?_
                refine st_val (ro_assign (v := .int _ _) rfl) ?_
                refine st_nil ?_
                refine nx_then ?_
                refine cd_ret ?_
                refine res3 (v := .slice _ _ _) (v' := .int _ _) (v'' := .int _ _) rfl rfl rfl rfl ?_
                obtain rfl : n = k := by omega
                have hb := (show BwT Ln F (Ln.length + 1) Bs a by rw [hLl]; exact hT).fin hSA
                exact ⟨.inr ⟨Ln, Bs, a, A2, c2, hLn, hlt, hb, rfl, own_le (ho.kept_from From.rfl_) hBz.size⟩, (hBz.next hFz)⟩
end Go.Proofs.Ytpafbgdbjambgaa
