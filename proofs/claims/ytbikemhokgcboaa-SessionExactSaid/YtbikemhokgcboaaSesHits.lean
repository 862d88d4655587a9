/- session: hits of replies: copies and comparisons. -/
import Derived.Test.YtbikemhokgcboaaSesOpen
import Derived.Laws.StructEq
namespace Go.Proofs.Ytbikemhokgcboaa
open Go.RowKit
open Go.ChangeShapes Go.WideShapes Go.ChangeAt
theorem SesHits_q29 : litQ Try.prog 29 = some (80, 2, 24, (.agg #[.string ⟨#[]⟩, .int .i64 0])) := by kernel_rfl
theorem SesHits_g80 : aggQ Try.prog 80 = some true := by kernel_rfl
theorem SesHits_z80 : sizeQ Try.prog 80 = some 2 := by kernel_rfl
theorem SesHits_l29 : (elemQ Try.prog 29).isSome = true := by kernel_rfl
theorem SesHits_e29 : elemQ Try.prog 29 = some (80, 2) := by kernel_rfl
theorem SesHits_f31_0 : fieldQ Try.prog 31 0 = some 0 := by kernel_rfl
theorem SesHits_g28 : aggQ Try.prog 28 = some false := by kernel_rfl
theorem SesHits_f31_1 : fieldQ Try.prog 31 1 = some 1 := by kernel_rfl
theorem SesHits_g3 : aggQ Try.prog 3 = some false := by kernel_rfl
theorem SesHits_f31_2 : fieldQ Try.prog 31 2 = some 2 := by kernel_rfl
theorem SesHits_g29 : aggQ Try.prog 29 = some false := by kernel_rfl
theorem SesHits_k39 : callable Try.prog 39 = true := by kernel_rfl
theorem SesHits_f60_0 : fieldQ Try.prog 60 0 = some 0 := by kernel_rfl
theorem SesHits_f60_1 : fieldQ Try.prog 60 1 = some 1 := by kernel_rfl
theorem SesHits_f60_2 : fieldQ Try.prog 60 2 = some 2 := by kernel_rfl
theorem SesHits_g31 : aggQ Try.prog 31 = some true := by kernel_rfl
theorem SesHits_z31 : sizeQ Try.prog 31 = some 3 := by kernel_rfl
theorem SesHits_k17 : callable Try.prog 17 = true := by kernel_rfl
theorem SesHits_f60_3 : fieldQ Try.prog 60 3 = some 5 := by kernel_rfl
theorem SesHits_g60 : aggQ Try.prog 60 = some true := by kernel_rfl
theorem SesHits_z60 : sizeQ Try.prog 60 = some 6 := by kernel_rfl
theorem SesHits_l22 : (elemQ Try.prog 22).isSome = true := by kernel_rfl
theorem SesHits_e22 : elemQ Try.prog 22 = some (60, 6) := by kernel_rfl
theorem SesHits_k40 : callable Try.prog 40 = true := by kernel_rfl
theorem SesHits_o31 : zeroQ Try.prog 31 = some (.agg #[.int .i64 0, .int .i64 0, .slice none 0 0]) := by kernel_rfl
theorem SesHits_k43 : callable Try.prog 43 = true := by kernel_rfl
theorem SesHits_z29 : sizeQ Try.prog 29 = some 1 := by kernel_rfl
theorem SesHits_o60 : zeroQ Try.prog 60 = some (.agg #[.int .i64 0, .int .i64 0, .int .i64 0, .int .i64 0, .slice none 0 0, .int .i64 0]) := by kernel_rfl
theorem SesHits_k21 : callable Try.prog 21 = true := by kernel_rfl
theorem SesHits_q22 : litQ Try.prog 22 = some (60, 6, 64, (.agg #[.int .i64 0, .int .i64 0, .int .i64 0, .int .i64 0, .slice none 0 0, .int .i64 0])) := by kernel_rfl
theorem SesHits_k31 : callable Try.prog 31 = true := by kernel_rfl
structure HitX where
  i : ByteArray
  a : Int
def hitV (x : HitX) : List Value := [.string x.i, .int .i64 x.a]
theorem hit_len (x : HitX) : (hitV x).length = 2 := rfl
def RowHt (w : World) (A : Option Addr) (H : List HitX) : Prop := RowK 2 hitV w A H
theorem RowHt.from_ {w w' : World} {A : Option Addr} {H : List HitX} (h : RowHt w A H) (hF : From w w') : RowHt w' A H := RowK.from_ h hF
theorem fillH (x : HitX) : Instr.fill (fun i => some (i * 2, 2)) ((Array.range (1 * 2)).map ((Value.agg #[.string ⟨#[]⟩, .int .i64 0]).cells[· % (Value.agg #[.string ⟨#[]⟩, .int .i64 0]).cells.size]!)) [(0, .agg (hitV x).toArray)] = some (hitV x).toArray := by
  first
    | kernel_rfl
    | rfl
theorem eqHit (x : HitX) (w : World) : (Op.equalIn 10000 80 (.agg (hitV x).toArray) (.agg (hitV x).toArray)).run Try.prog w = .ok true w := by
  have u3 := Try.underlying3
  have a3 := Try.isAgg3
  have z3 := Try.sizeOf3
  have u9 := Try.underlying9
  have a9 := Try.isAgg9
  have z9 := Try.sizeOf9
  have hS : Try.prog.underlying 80 = some (.struct (Try.prog.fieldsOf 80)) := by kernel_rfl
  have hp : Try.prog.stoodInHeld 80 = false := by kernel_rfl
  obtain ⟨i, a⟩ := x
  rw [show (10000 : Nat) = 9999 + 1 from rfl, run_equalIn_agg w 9999 80 _ _ hS hp]
  simp only [Program.fieldsOf, Try.underlying80 , hitV]
  go_simp
section
variable {ρ : Operand → Value} {w : World} {yt : TypeId} {x y : Operand}
theorem ro_neqHit {h : HitX} (hx : ρ x = .agg (hitV h).toArray) (hy : ρ y = .agg (hitV h).toArray) : RO Try.prog ρ (.binOp .neq 80 x y yt) w (.bool false) w := by
  refine ro_bin hx hy (run_eqGuard_agg w _ _ _ _ _ _ (by kernel_rfl)) ?_
  rw [run_neq_struct, eqHit]
  rfl
end
set_option maxRecDepth 100000 in
set_option maxHeartbeats 400000 in
theorem copyHits_rt (A : Option Addr) (c : Nat) (H : List HitX) (w : World) (hr : RowHt w A H) (hl : H.length ≤ 1000) :
    Rt Try.prog 43 [.slice A H.length c] w (fun v w' => (∃ A' c', v = .slice A' H.length c' ∧ w'.ownsRow w.heap.size 80 2 (.slice A' H.length c') H.length (H.flatMap hitV)) ∧ From w w') := by
  refine enter (n := 19) Try.func43 rfl rfl rfl ?_
  refine cd_seq ?_
  refine cd_region ?_
  refine st_val (ro_assign (v := .slice _ _ _) rfl) ?_
  refine st_nil ?_
  refine nx_then ?_
  refine cd_seq ?_
  refine cd_region ?_
  refine st_val (ro_assign (v := .slice _ _ _) rfl) ?_
  refine st_nil ?_
  refine nx_then ?_
  refine cd_seq ?_
  refine cd_seq ?_
  refine cd_region ?_
  refine st_val (ro_assign (v := .int _ _) rfl) ?_
  refine st_nil ?_
  refine nx_then ?_
  refine cd_block ?_
  refine cd_loop (G := Nat × Option Addr × Nat) [5, 6, 7, 8, 9, 10, 11, 12, 13, 14, 15, 16, 17] (fun (k, A3, c3) => [(3, .slice A3 k c3), (4, .int .i64 (k : Nat))]) (fun (k, A3, c3) w' => k ≤ H.length ∧ w'.ownsRow w.heap.size 80 2 (.slice A3 k c3) k ((H.take k).flatMap hitV) ∧ From w w') (fun (k, _, _) => H.length - k) ((0, none, 0)) ⟨rfl, rfl, trivial⟩ ?_ ?_
  · exact ⟨Nat.zero_le _, World.ownsRow_nil _ _ _ _, From.rfl_⟩
  rintro ⟨k, A3, c3⟩ ρ1 w1 ⟨hk, ho, hB⟩
  refine cd_seq ?_
  refine cd_seq ?_
  refine cd_region ?_
  refine st_val (ro_move (v := .int _ _) rfl) ?_
  refine st_val (ro_move (v := .slice _ _ _) rfl) ?_
  refine st_val (ro_len SesHits_l29 rfl) ?_
  refine st_val (ro_lss rfl rfl) ?_
  refine st_nil ?_
  refine nx_then ?_
  refine cd_cond rfl (fun Q2 => ?_) (fun Q2 => ?_)
  · (try first | replace Q2 := bn_t Q2 | replace Q2 := bn_f Q2)
    (try first | replace Q2 := bx_t Q2 | replace Q2 := bx_f Q2 | replace Q2 := be_t Q2 | replace Q2 := be_f Q2 | replace Q2 := of_decide_eq_true Q2 | replace Q2 := of_decide_eq_false Q2)
    have hkl : k < H.length := by omega
    obtain ⟨ba, oa, rfl, hcs⟩ := hr (by omega)
    first
     | (exfalso; first | omega | contradiction | (cases Q2; done))
     | skip
       refine cd_skip ?_
       refine nx_then ?_
       refine cd_seq ?_
       refine cd_block ?_
       refine cd_region ?_
       refine st_val (ro_move (v := .slice _ _ _) rfl) ?_
       refine st_val (ro_move (v := .slice _ _ _) rfl) ?_
       refine st_val (ro_move (v := .int _ _) rfl) ?_
       refine st_val (ro_indexAddrN SesHits_e29 rfl rfl (by omega)) ?_
       refine st_val (ro_loadA (cs := [_, _]) SesHits_g80 SesHits_z80 rfl (by exact rangeF hB (hcs k hkl))) ?_
       refine st_lit (cells := (hitV H[k]).toArray) SesHits_q29 rfl rfl (fillH H[k]) ?_
       intro b16 w3 E16 hb16 hk16
       refine st_append (a0 := w) SesHits_q29 rfl (by decide) rfl (ho.kept_from E16) (hB.next E16) rfl (hit_len H[k]) (fun _ => ⟨b16, 0, rfl, hk16.whole⟩) (fun h => by cases h) (by simp [hitV, Value.oneCell']) (by omega) (by omega) ?_
       intro A17 c17 w4 ho17 B17 hg17
       refine st_val (ro_assign (v := .slice _ _ _) rfl) ?_
       refine st_nil ?_
       refine nx_block ?_
       refine nx_then ?_
       refine cd_region ?_
       refine st_val (ro_move (v := .int _ _) rfl) ?_
       refine st_val (ro_addN (b := 1) rfl rfl (by omega)) ?_
       refine st_val (ro_assign (v := .int _ _) rfl) ?_
       refine st_nil ?_
       refine nx_cut ((k + 1, A17, c17)) ⟨(by first | rfl | (refine int_eq ?_; omega)), (by first | rfl | (refine int_eq ?_; omega)), trivial⟩ (by (iterate 30 refine agr_cons rfl ?_); exact agr_rfl) ⟨?_, ?_⟩
       · exact ⟨by omega, by rw [List.take_succ_eq_append_getElem hkl, List.flatMap_append]; simpa using ho17, B17⟩
       · show H.length - (k + 1) < H.length - k; omega
  · (try first | replace Q2 := bn_t Q2 | replace Q2 := bn_f Q2)
    (try first | replace Q2 := bx_t Q2 | replace Q2 := bx_f Q2 | replace Q2 := be_t Q2 | replace Q2 := be_f Q2 | replace Q2 := of_decide_eq_true Q2 | replace Q2 := of_decide_eq_false Q2)
    first
     | (exfalso; first | omega | contradiction | (cases Q2; done))
     | skip
       refine cd_exit ?_
       refine ex_then ?_
       refine ex_then ?_
       refine ex_block ?_
       refine nx_then ?_
       refine cd_seq ?_
       refine cd_region ?_
       refine st_val (ro_move (v := .slice _ _ _) rfl) ?_
       refine st_val (ro_assign (v := .slice _ _ _) rfl) ?_
       refine st_nil ?_
       refine nx_then ?_
       refine cd_ret ?_
       refine res1 (v := .slice _ _ _) rfl rfl ?_
       obtain rfl : k = H.length := by omega
       rw [List.take_length] at ho
       exact ⟨⟨A3, c3, rfl, ho⟩, hB⟩
set_option maxRecDepth 100000 in
set_option maxHeartbeats 400000 in
theorem eqHits_t (A B : Option Addr) (ca cb n m : Nat) (H : List HitX) (w : World) (hn : n = H.length) (hm : m = H.length) (hr : RowHt w A H) (hr2 : RowHt w B H) (hl : H.length ≤ 1000) :
    Rt Try.prog 39 [.slice A n ca, .slice B m cb] w (fun v w' => v = .bool true ∧ From w w') := by
  refine enter (n := 26) Try.func39 rfl rfl rfl ?_
  refine cd_seq ?_
  refine cd_region ?_
  refine st_val (ro_assign (v := .bool _) rfl) ?_
  refine st_nil ?_
  refine nx_then ?_
  refine cd_seq ?_
  refine cd_seq ?_
  refine cd_region ?_
  refine st_val (ro_move (v := .slice _ _ _) rfl) ?_
  refine st_val (ro_len SesHits_l29 rfl) ?_
  refine st_val (ro_move (v := .slice _ _ _) rfl) ?_
  refine st_val (ro_len SesHits_l29 rfl) ?_
  refine st_val (ro_neq rfl rfl) ?_
  refine st_nil ?_
  refine nx_then ?_
  refine cd_cond rfl (fun Q1 => ?_) (fun Q1 => ?_)
  · (try first | replace Q1 := bn_t Q1 | replace Q1 := bn_f Q1)
    (try first | replace Q1 := bx_t Q1 | replace Q1 := bx_f Q1 | replace Q1 := be_t Q1 | replace Q1 := be_f Q1 | replace Q1 := of_decide_eq_true Q1 | replace Q1 := of_decide_eq_false Q1)
    first
     | (exfalso; first | omega | contradiction | (cases Q1; done))
     | skip
       refine cd_seq ?_
       refine cd_region ?_
       refine st_val (ro_assign (v := .bool _) rfl) ?_
       refine st_nil ?_
       refine nx_then ?_
       refine cd_ret ?_
       refine rt_then ?_
       refine res1 (v := .bool _) rfl rfl ?_
       exact ⟨rfl, From.rfl_⟩
  · (try first | replace Q1 := bn_t Q1 | replace Q1 := bn_f Q1)
    (try first | replace Q1 := bx_t Q1 | replace Q1 := bx_f Q1 | replace Q1 := be_t Q1 | replace Q1 := be_f Q1 | replace Q1 := of_decide_eq_true Q1 | replace Q1 := of_decide_eq_false Q1)
    first
     | (exfalso; first | omega | contradiction | (cases Q1; done))
     | skip
       refine cd_skip ?_
       refine nx_then ?_
       refine cd_seq ?_
       refine cd_seq ?_
       refine cd_region ?_
       refine st_val (ro_assign (v := .int _ _) rfl) ?_
       refine st_nil ?_
       refine nx_then ?_
       refine cd_block ?_
       refine cd_loop (G := Nat) [4, 11, 12, 13, 14, 15, 16, 17, 18, 19, 20, 21, 22, 23, 24, 25] (fun k => [(5, .int .i64 (k : Nat))]) (fun k w' => k ≤ H.length ∧ From w w') (fun k => H.length - k) (0) ⟨rfl, trivial⟩ ?_ ?_
       · exact ⟨Nat.zero_le _, From.rfl_⟩
       rintro k ρ2 w2 ⟨hk, hB⟩
       refine cd_seq ?_
       refine cd_seq ?_
       refine cd_region ?_
       refine st_val (ro_move (v := .int _ _) rfl) ?_
       refine st_val (ro_move (v := .slice _ _ _) rfl) ?_
       refine st_val (ro_len SesHits_l29 rfl) ?_
       refine st_val (ro_lss rfl rfl) ?_
       refine st_nil ?_
       refine nx_then ?_
       refine cd_cond rfl (fun Q3 => ?_) (fun Q3 => ?_)
       · (try first | replace Q3 := bn_t Q3 | replace Q3 := bn_f Q3)
         (try first | replace Q3 := bx_t Q3 | replace Q3 := bx_f Q3 | replace Q3 := be_t Q3 | replace Q3 := be_f Q3 | replace Q3 := of_decide_eq_true Q3 | replace Q3 := of_decide_eq_false Q3)
         have hkl : k < H.length := by omega
         obtain ⟨ba, oa, rfl, hcs⟩ := hr (by omega)
         obtain ⟨bb, ob, rfl, hcs2⟩ := hr2 (by omega)
         first
          | (exfalso; first | omega | contradiction | (cases Q3; done))
          | skip
            refine cd_skip ?_
            refine nx_then ?_
            refine cd_seq ?_
            refine cd_block ?_
            refine cd_seq ?_
            apply cd_drawnD 9 [(17, eqp _), (18, eqp _), (19, eqp _), (20, eqp (.agg (hitV (H[k]'hkl)).toArray)), (21, eqp _), (22, eqp _), (23, eqp _), (24, eqp (.agg (hitV (H[k]'hkl)).toArray)), (25, eqp (.bool false))] (by repeat first | exact pq_body | refine pq_then ?_ | refine pq_block ?_) (by kernel_rfl) (by kernel_rfl) ⟨eqp_mono _, eqp_mono _, eqp_mono _, eqp_mono _, eqp_mono _, eqp_mono _, eqp_mono _, eqp_mono _, eqp_mono _, trivial⟩
            case hop =>
             refine ⟨?_, ?_⟩
             · rintro - w5 D5
               show OpOK _ _ _ _ _ _ _
               exact ok_pure (ro_move (v := .slice _ _ _) rfl) rfl
             refine ⟨?_, ?_⟩
             · rintro - w6 D6
               show OpOK _ _ _ _ _ _ _
               exact ok_pure (ro_move (v := .int _ _) rfl) rfl
             refine ⟨?_, ?_⟩
             · rintro - w7 D7
               rintro _ rfl _ rfl
               show OpOK _ _ _ _ _ _ _
               exact ok_pure (ro_indexAddrN SesHits_e29 rfl rfl (by omega)) rfl
             refine ⟨?_, ?_⟩
             · rintro - w8 D8
               rintro _ rfl
               show OpOK _ _ _ _ _ _ _
               exact ok_pure (ro_loadA (cs := hitV H[k]) SesHits_g80 SesHits_z80 rfl (rangeF (hB.next D8) (hcs k hkl))) rfl
             refine ⟨?_, ?_⟩
             · rintro - w9 D9
               show OpOK _ _ _ _ _ _ _
               exact ok_pure (ro_move (v := .slice _ _ _) rfl) rfl
             refine ⟨?_, ?_⟩
             · rintro - w10 D10
               show OpOK _ _ _ _ _ _ _
               exact ok_pure (ro_move (v := .int _ _) rfl) rfl
             refine ⟨?_, ?_⟩
             · rintro - w11 D11
               rintro _ rfl _ rfl
               show OpOK _ _ _ _ _ _ _
               exact ok_pure (ro_indexAddrN SesHits_e29 rfl rfl (by omega)) rfl
             refine ⟨?_, ?_⟩
             · rintro - w12 D12
               rintro _ rfl
               show OpOK _ _ _ _ _ _ _
               exact ok_pure (ro_loadA (cs := hitV H[k]) SesHits_g80 SesHits_z80 rfl (rangeF (hB.next D12) (hcs2 k hkl))) rfl
             refine ⟨?_, ?_⟩
             · rintro - w13 D13
               rintro v13_20 rfl v13_24 rfl
               show OpOK _ _ _ _ _ _ _
               exact ok_pure (ro_neqHit (h := H[k]) rfl rfl) rfl
             exact trivial
            case hend =>
             intro w14 D14
             rintro _ rfl _ rfl _ rfl v20 rfl _ rfl _ rfl _ rfl v24 rfl v25 rfl
             show St _ _ _ _ _ _ _
             refine st_nil ?_
             refine nx_then ?_
             refine cd_cond rfl (fun Q15 => ?_) (fun Q15 => ?_)
             · (try first | replace Q15 := bn_t Q15 | replace Q15 := bn_f Q15)
               (try first | replace Q15 := bx_t Q15 | replace Q15 := bx_f Q15 | replace Q15 := be_t Q15 | replace Q15 := be_f Q15 | replace Q15 := of_decide_eq_true Q15 | replace Q15 := of_decide_eq_false Q15)
               first
                | (exfalso; first | omega | contradiction | (cases Q15; done))
                | skip
                  refine cd_seq ?_
                  refine cd_region ?_
                  refine st_val (ro_assign (v := .bool _) rfl) ?_
                  refine st_nil ?_
                  refine nx_then ?_
                  refine cd_ret ?_
                  refine rt_block ?_
                  refine rt_then ?_
                  refine rt_then ?_
                  refine rt_block ?_
                  refine rt_then ?_
                  refine res1 (v := .bool _) rfl rfl ?_
                  exact ⟨rfl, (hB.next D14)⟩
             · (try first | replace Q15 := bn_t Q15 | replace Q15 := bn_f Q15)
               (try first | replace Q15 := bx_t Q15 | replace Q15 := bx_f Q15 | replace Q15 := be_t Q15 | replace Q15 := be_f Q15 | replace Q15 := of_decide_eq_true Q15 | replace Q15 := of_decide_eq_false Q15)
               first
                | (exfalso; first | omega | contradiction | (cases Q15; done))
                | skip
                  refine cd_skip ?_
                  refine nx_block ?_
                  refine nx_then ?_
                  refine cd_region ?_
                  refine st_val (ro_move (v := .int _ _) rfl) ?_
                  refine st_val (ro_addN (b := 1) rfl rfl (by omega)) ?_
                  refine st_val (ro_assign (v := .int _ _) rfl) ?_
                  refine st_nil ?_
                  refine nx_cut (k + 1) ⟨(by first | rfl | (refine int_eq ?_; omega)), trivial⟩ (by (iterate 33 refine agr_cons rfl ?_); exact agr_rfl) ⟨?_, ?_⟩
                  · exact ⟨by omega, (hB.next D14)⟩
                  · omega
       · (try first | replace Q3 := bn_t Q3 | replace Q3 := bn_f Q3)
         (try first | replace Q3 := bx_t Q3 | replace Q3 := bx_f Q3 | replace Q3 := be_t Q3 | replace Q3 := be_f Q3 | replace Q3 := of_decide_eq_true Q3 | replace Q3 := of_decide_eq_false Q3)
         first
          | (exfalso; first | omega | contradiction | (cases Q3; done))
          | skip
            refine cd_exit ?_
            refine ex_then ?_
            refine ex_then ?_
            refine ex_block ?_
            refine nx_then ?_
            refine cd_seq ?_
            refine cd_region ?_
            refine st_val (ro_assign (v := .bool _) rfl) ?_
            refine st_nil ?_
            refine nx_then ?_
            refine cd_ret ?_
            refine res1 (v := .bool _) rfl rfl ?_
            exact ⟨rfl, hB⟩
def HitsOf (w : World) (L : List Ses) (HL : List (List HitX)) : Prop := L.length = HL.length ∧ ∀ i (h1 : i < L.length) (h2 : i < HL.length), L[i].hl = HL[i].length ∧ HL[i].length ≤ 1000 ∧ RowHt w L[i].H HL[i]
theorem HitsOf.from_ {w w' : World} {L : List Ses} {HL : List (List HitX)} (h : HitsOf w L HL) (hF : From w w') : HitsOf w' L HL := ⟨h.1, fun i h1 h2 => ⟨(h.2 i h1 h2).1, (h.2 i h1 h2).2.1, (h.2 i h1 h2).2.2.from_ hF⟩⟩
theorem rowHt_own {w : World} {base n c : Nat} {A : Option Addr} {H : List HitX} (h : w.ownsRow base 80 2 (.slice A n c) n (H.flatMap hitV)) : RowHt w A H := (RowK.own hit_len (by decide) h).2
set_option maxRecDepth 100000 in
set_option maxHeartbeats 400000 in
theorem eqReplyH (e n : Int) (A B : Option Addr) (ca cb na nb : Nat) (H : List HitX) (w : World) (hna : na = H.length) (hnb : nb = H.length) (hr : RowHt w A H) (hr2 : RowHt w B H) (hl : H.length ≤ 1000) :
    Rt Try.prog 17 [.agg #[.int .i64 e, .int .i64 n, .slice A na ca], .agg #[.int .i64 e, .int .i64 n, .slice B nb cb]] w (fun v w' => v = .bool true ∧ From w w') := by
  refine enter (n := 24) Try.func17 rfl rfl rfl ?_
  refine cd_seq ?_
  refine cd_region ?_
  refine st_box (v := .agg _) rfl ?_
  intro b2 w1 E2 hb2 hk2
  refine st_box (v := .agg _) rfl ?_
  intro b3 w2 E3 hb3 hk3
  replace hk2 := hk2.from_ (From.rfl_.next E3)
  refine st_val (ro_assign (v := .bool _) rfl) ?_
  refine st_nil ?_
  refine nx_then ?_
  refine cd_seq ?_
  refine cd_region ?_
  refine st_val (ro_fieldAddr SesHits_f31_0 rfl) ?_
  refine st_val (ro_load SesHits_g28 rfl (by exact hk2.rd 0 rfl)) ?_
  refine st_val (ro_fieldAddr SesHits_f31_0 rfl) ?_
  refine st_val (ro_load SesHits_g28 rfl (by exact hk3.rd 0 rfl)) ?_
  refine st_val (ro_bt (ro_eql rfl rfl) (beq_self_eq_true _)) ?_
  refine st_val (ro_move (v := .bool _) rfl) ?_
  refine st_unguard rfl ?_
  refine st_val (ro_fieldAddr SesHits_f31_1 rfl) ?_
  refine st_unguard rfl ?_
  refine st_val (ro_load SesHits_g3 rfl (by exact hk2.rd 1 rfl)) ?_
  refine st_unguard rfl ?_
  refine st_val (ro_fieldAddr SesHits_f31_1 rfl) ?_
  refine st_unguard rfl ?_
  refine st_val (ro_load SesHits_g3 rfl (by exact hk3.rd 1 rfl)) ?_
  refine st_unguard rfl ?_
  refine st_val (ro_bt (ro_eql rfl rfl) (beq_self_eq_true _)) ?_
  refine st_val (ro_pickT (v := .bool _) rfl rfl) ?_
  refine st_val (ro_move (v := .bool _) rfl) ?_
  refine st_unguard rfl ?_
  refine st_val (ro_fieldAddr SesHits_f31_2 rfl) ?_
  refine st_unguard rfl ?_
  refine st_val (ro_load SesHits_g29 rfl (by exact hk2.rd 2 rfl)) ?_
  refine st_unguard rfl ?_
  refine st_val (ro_fieldAddr SesHits_f31_2 rfl) ?_
  refine st_unguard rfl ?_
  refine st_val (ro_load SesHits_g29 rfl (by exact hk3.rd 2 rfl)) ?_
  refine st_unguard rfl ?_
  refine st_call SesHits_k39 (eqHits_t A B ca cb na nb H _ hna hnb (hr.from_ ((From.rfl_.next E2).next E3)) (hr2.from_ ((From.rfl_.next E2).next E3)) hl) ?_
  rintro v22 w3 ⟨rfl, E22⟩
  refine st_val (ro_pickT (v := .bool _) rfl rfl) ?_
  refine st_val (ro_assign (v := .bool _) rfl) ?_
  refine st_nil ?_
  refine nx_then ?_
  refine cd_ret ?_
  refine res1 (v := .bool _) rfl rfl ?_
  exact ⟨rfl, (((From.rfl_.next E2).next E3).next E22)⟩
set_option maxRecDepth 100000 in
set_option maxHeartbeats 400000 in
theorem eqSessionH (x y : Ses) (H : List HitX) (w : World) (hx : x.hl = H.length) (hy : y.hl = H.length) (hl8 : H.length ≤ 1000) (hr : RowHt w x.H H) (hr2 : RowHt w y.H H) (he : norm x = norm y) :
    Rt Try.prog 40 [.agg #[.int .i64 x.c, .int .i64 x.s, .int .i64 x.e, .int .i64 x.n, .slice x.H x.hl x.hc, .int .i64 x.u], .agg #[.int .i64 y.c, .int .i64 y.s, .int .i64 y.e, .int .i64 y.n, .slice y.H y.hl y.hc, .int .i64 y.u]] w (fun v w' => v = .bool true ∧ From w w') := by
  obtain ⟨c, s, e, n, H1, hl, hc, u⟩ := x
  obtain ⟨c2, s2, e2, n2, H2, hl2, hc2, u2⟩ := y
  simp only [norm, Ses.mk.injEq, true_and, and_true] at he
  obtain ⟨rfl, rfl, rfl, rfl, rfl⟩ := he
  simp only at hx hy hr hr2
  refine enter (n := 31) Try.func40 rfl rfl rfl ?_
  refine cd_seq ?_
  refine cd_region ?_
  refine st_box (v := .agg _) rfl ?_
  intro b2 w1 E2 hb2 hk2
  refine st_box (v := .agg _) rfl ?_
  intro b3 w2 E3 hb3 hk3
  replace hk2 := hk2.from_ (From.rfl_.next E3)
  refine st_val (ro_assign (v := .bool _) rfl) ?_
  refine st_nil ?_
  refine nx_then ?_
  refine cd_seq ?_
  refine cd_region ?_
  refine st_val (ro_fieldAddr SesHits_f60_0 rfl) ?_
  refine st_val (ro_load SesHits_g3 rfl (by exact hk2.rd 0 rfl)) ?_
  refine st_val (ro_fieldAddr SesHits_f60_0 rfl) ?_
  refine st_val (ro_load SesHits_g3 rfl (by exact hk3.rd 0 rfl)) ?_
  refine st_val (ro_bt (ro_eql rfl rfl) (beq_self_eq_true _)) ?_
  refine st_val (ro_move (v := .bool _) rfl) ?_
  refine st_unguard rfl ?_
  refine st_val (ro_fieldAddr SesHits_f60_1 rfl) ?_
  refine st_unguard rfl ?_
  refine st_val (ro_load SesHits_g3 rfl (by exact hk2.rd 1 rfl)) ?_
  refine st_unguard rfl ?_
  refine st_val (ro_fieldAddr SesHits_f60_1 rfl) ?_
  refine st_unguard rfl ?_
  refine st_val (ro_load SesHits_g3 rfl (by exact hk3.rd 1 rfl)) ?_
  refine st_unguard rfl ?_
  refine st_val (ro_bt (ro_eql rfl rfl) (beq_self_eq_true _)) ?_
  refine st_val (ro_pickT (v := .bool _) rfl rfl) ?_
  refine st_val (ro_move (v := .bool _) rfl) ?_
  refine st_unguard rfl ?_
  refine st_val (ro_fieldAddr SesHits_f60_2 rfl) ?_
  refine st_unguard rfl ?_
  refine st_val (ro_loadA (cs := [_, _, _]) SesHits_g31 SesHits_z31 rfl (by exact rep_of hk2)) ?_
  refine st_unguard rfl ?_
  refine st_val (ro_fieldAddr SesHits_f60_2 rfl) ?_
  refine st_unguard rfl ?_
  refine st_val (ro_loadA (cs := [_, _, _]) SesHits_g31 SesHits_z31 rfl (by exact rep_of hk3)) ?_
  refine st_unguard rfl ?_
  refine st_call SesHits_k17 (eqReplyH e n H1 H2 hc hc2 hl hl2 H _ hx hy (hr.from_ ((From.rfl_.next E2).next E3)) (hr2.from_ ((From.rfl_.next E2).next E3)) hl8) ?_
  rintro v22 w3 ⟨rfl, E22⟩
  refine st_val (ro_pickT (v := .bool _) rfl rfl) ?_
  refine st_val (ro_move (v := .bool _) rfl) ?_
  refine st_unguard rfl ?_
  refine st_val (ro_fieldAddr SesHits_f60_3 rfl) ?_
  refine st_unguard rfl ?_
  refine st_val (ro_load SesHits_g3 rfl (by exact (hk2.from_ E22).rd 5 rfl)) ?_
  refine st_unguard rfl ?_
  refine st_val (ro_fieldAddr SesHits_f60_3 rfl) ?_
  refine st_unguard rfl ?_
  refine st_val (ro_load SesHits_g3 rfl (by exact (hk3.from_ E22).rd 5 rfl)) ?_
  refine st_unguard rfl ?_
  refine st_val (ro_bt (ro_eql rfl rfl) (beq_self_eq_true _)) ?_
  refine st_val (ro_pickT (v := .bool _) rfl rfl) ?_
  refine st_val (ro_assign (v := .bool _) rfl) ?_
  refine st_nil ?_
  refine nx_then ?_
  refine cd_ret ?_
  refine res1 (v := .bool _) rfl rfl ?_
  exact ⟨rfl, (((From.rfl_.next E2).next E3).next E22)⟩
set_option maxRecDepth 100000 in
set_option maxHeartbeats 400000 in
theorem eqSessionsH (A B : Option Addr) (c c2 : Nat) (K L : List Ses) (HL : List (List HitX)) (w : World) (hr : RowS w A K) (hr2 : RowS w B L) (hl : K.length ≤ 1000) (hh1 : HitsOf w K HL) (hh2 : HitsOf w L HL) (he : K.map norm = L.map norm) :
    Rt Try.prog 18 [.slice A K.length c, .slice B L.length c2] w (fun v w' => v = .bool true ∧ From w w') := by
  have hln : K.length = L.length := by have := congrArg List.length he; simpa using this
  refine enter (n := 27) Try.func18 rfl rfl rfl ?_
  refine cd_seq ?_
  refine cd_region ?_
  refine st_val (ro_assign (v := .bool _) rfl) ?_
  refine st_nil ?_
  refine nx_then ?_
  refine cd_seq ?_
  refine cd_seq ?_
  refine cd_region ?_
  refine st_val (ro_move (v := .slice _ _ _) rfl) ?_
  refine st_val (ro_len SesHits_l22 rfl) ?_
  refine st_val (ro_move (v := .slice _ _ _) rfl) ?_
  refine st_val (ro_len SesHits_l22 rfl) ?_
  refine st_val (ro_bf (ro_neq rfl rfl) (by rw [hln]; exact bne_self_eq_false _)) ?_
  refine st_nil ?_
  refine nx_then ?_
  refine cd_condF rfl ?_
  refine cd_skip ?_
  refine nx_then ?_
  refine cd_seq ?_
  refine cd_seq ?_
  refine cd_region ?_
  refine st_val (ro_assign (v := .int _ _) rfl) ?_
  refine st_nil ?_
  refine nx_then ?_
  refine cd_block ?_
  refine cd_loop (G := Nat) [4, 11, 12, 13, 14, 15, 16, 17, 18, 19, 20, 21, 22, 23, 24, 25, 26] (fun k => [(5, .int .i64 (k : Nat))]) (fun k w' => k ≤ K.length ∧ From w w') (fun k => K.length - k) (0) ⟨rfl, trivial⟩ ?_ ?_
  · exact ⟨Nat.zero_le _, From.rfl_⟩
  rintro k ρ1 w1 ⟨hk, hB⟩
  refine cd_seq ?_
  refine cd_seq ?_
  refine cd_region ?_
  refine st_val (ro_move (v := .int _ _) rfl) ?_
  refine st_val (ro_move (v := .slice _ _ _) rfl) ?_
  refine st_val (ro_len SesHits_l22 rfl) ?_
  refine st_val (ro_lss rfl rfl) ?_
  refine st_nil ?_
  refine nx_then ?_
  refine cd_cond rfl (fun Q2 => ?_) (fun Q2 => ?_)
  · (try first | replace Q2 := bn_t Q2 | replace Q2 := bn_f Q2)
    (try first | replace Q2 := bx_t Q2 | replace Q2 := bx_f Q2 | replace Q2 := be_t Q2 | replace Q2 := be_f Q2 | replace Q2 := of_decide_eq_true Q2 | replace Q2 := of_decide_eq_false Q2)
    obtain ⟨ba, oa, rfl, hca⟩ := hr (by omega)
    obtain ⟨bb, ob, rfl, hcb⟩ := hr2 (by omega)
    have hkK : k < K.length := by omega
    have hkL : k < L.length := by omega
    have hkH : k < HL.length := by have := hh1.1; omega
    have hnk : norm K[k] = norm L[k] := norm_at he k hkK hkL
    obtain ⟨q1, q2, q3⟩ := hh1.2 k hkK hkH
    obtain ⟨q4, _, q6⟩ := hh2.2 k hkL hkH
    first
     | (exfalso; first | omega | contradiction | (cases Q2; done))
     | skip
       refine cd_skip ?_
       refine nx_then ?_
       refine cd_seq ?_
       refine cd_block ?_
       refine cd_seq ?_
       apply cd_drawnD 10 [(17, eqp _), (18, eqp _), (19, eqp _), (20, eqp (.agg (sesV (K[k]'hkK)).toArray)), (21, eqp _), (22, eqp _), (23, eqp _), (24, eqp (.agg (sesV (L[k]'hkL)).toArray)), (25, eqp _), (26, eqp _)] (by repeat first | exact pq_body | refine pq_then ?_ | refine pq_block ?_) (by kernel_rfl) (by kernel_rfl) ⟨eqp_mono _, eqp_mono _, eqp_mono _, eqp_mono _, eqp_mono _, eqp_mono _, eqp_mono _, eqp_mono _, eqp_mono _, eqp_mono _, trivial⟩
       case hop =>
        refine ⟨?_, ?_⟩
        · rintro - w4 D4
          show OpOK _ _ _ _ _ _ _
          exact ok_pure (ro_move (v := .slice _ _ _) rfl) rfl
        refine ⟨?_, ?_⟩
        · rintro - w5 D5
          show OpOK _ _ _ _ _ _ _
          exact ok_pure (ro_move (v := .int _ _) rfl) rfl
        refine ⟨?_, ?_⟩
        · rintro - w6 D6
          rintro _ rfl _ rfl
          show OpOK _ _ _ _ _ _ _
          exact ok_pure (ro_indexAddrN SesHits_e22 rfl rfl (by omega)) rfl
        refine ⟨?_, ?_⟩
        · rintro - w7 D7
          rintro _ rfl
          show OpOK _ _ _ _ _ _ _
          exact ok_pure (ro_loadA (cs := sesV (K[k]'hkK)) SesHits_g60 SesHits_z60 rfl (rangeF (hB.next D7) (hca k hkK))) rfl
        refine ⟨?_, ?_⟩
        · rintro - w8 D8
          show OpOK _ _ _ _ _ _ _
          exact ok_pure (ro_move (v := .slice _ _ _) rfl) rfl
        refine ⟨?_, ?_⟩
        · rintro - w9 D9
          show OpOK _ _ _ _ _ _ _
          exact ok_pure (ro_move (v := .int _ _) rfl) rfl
        refine ⟨?_, ?_⟩
        · rintro - w10 D10
          rintro _ rfl _ rfl
          show OpOK _ _ _ _ _ _ _
          exact ok_pure (ro_indexAddrN SesHits_e22 rfl rfl (by omega)) rfl
        refine ⟨?_, ?_⟩
        · rintro - w11 D11
          rintro _ rfl
          show OpOK _ _ _ _ _ _ _
          exact ok_pure (ro_loadA (cs := sesV (L[k]'hkL)) SesHits_g60 SesHits_z60 rfl (rangeF (hB.next D11) (hcb k hkL))) rfl
        refine ⟨?_, ?_⟩
        · rintro - w12 D12
          rintro v12_20 rfl v12_24 rfl
          show OpOK _ _ _ _ _ _ _
          refine ok_call SesHits_k40 ((eqSessionH (K[k]'hkK) (L[k]'hkL) (HL[k]'hkH) _ q1 q4 q2 (q3.from_ (hB.next D12)) (q6.from_ (hB.next D12)) hnk).mono ?_)
          rintro v _ ⟨rfl, E12'⟩; exact ⟨E12', rfl⟩
        refine ⟨?_, ?_⟩
        · rintro - w13 D13
          rintro _ rfl
          show OpOK _ _ _ _ _ _ _
          exact ok_pure (ro_not rfl) rfl
        exact trivial
       case hend =>
        intro w14 D14
        rintro _ rfl _ rfl _ rfl v20 rfl _ rfl _ rfl _ rfl v24 rfl _ rfl _ rfl
        show St _ _ _ _ _ _ _
        refine st_nil ?_
        refine nx_then ?_
        refine cd_cond rfl (fun Q15 => ?_) (fun Q15 => ?_)
        · (try first | replace Q15 := bn_t Q15 | replace Q15 := bn_f Q15)
          (try first | replace Q15 := bx_t Q15 | replace Q15 := bx_f Q15 | replace Q15 := be_t Q15 | replace Q15 := be_f Q15 | replace Q15 := of_decide_eq_true Q15 | replace Q15 := of_decide_eq_false Q15)
          first
           | (exfalso; first | omega | contradiction | (cases Q15; done))
           | skip
             refine cd_seq ?_
             refine cd_region ?_
             refine st_val (ro_assign (v := .bool _) rfl) ?_
             refine st_nil ?_
             refine nx_then ?_
             refine cd_ret ?_
             refine rt_block ?_
             refine rt_then ?_
             refine rt_then ?_
             refine rt_block ?_
             refine rt_then ?_
             refine res1 (v := .bool _) rfl rfl ?_
             exact absurd rfl (by simp_all)
        · (try first | replace Q15 := bn_t Q15 | replace Q15 := bn_f Q15)
          (try first | replace Q15 := bx_t Q15 | replace Q15 := bx_f Q15 | replace Q15 := be_t Q15 | replace Q15 := be_f Q15 | replace Q15 := of_decide_eq_true Q15 | replace Q15 := of_decide_eq_false Q15)
          first
           | (exfalso; first | omega | contradiction | (cases Q15; done))
           | skip
             refine cd_skip ?_
             refine nx_block ?_
             refine nx_then ?_
             refine cd_region ?_
             refine st_val (ro_move (v := .int _ _) rfl) ?_
             refine st_val (ro_addN (b := 1) rfl rfl (by omega)) ?_
             refine st_val (ro_assign (v := .int _ _) rfl) ?_
             refine st_nil ?_
             refine nx_cut (k + 1) ⟨(by first | rfl | (refine int_eq ?_; omega)), trivial⟩ (by (iterate 35 refine agr_cons rfl ?_); exact agr_rfl) ⟨?_, ?_⟩
             · exact ⟨by omega, (hB.next D14)⟩
             · omega
  · (try first | replace Q2 := bn_t Q2 | replace Q2 := bn_f Q2)
    (try first | replace Q2 := bx_t Q2 | replace Q2 := bx_f Q2 | replace Q2 := be_t Q2 | replace Q2 := be_f Q2 | replace Q2 := of_decide_eq_true Q2 | replace Q2 := of_decide_eq_false Q2)
    first
     | (exfalso; first | omega | contradiction | (cases Q2; done))
     | skip
       refine cd_exit ?_
       refine ex_then ?_
       refine ex_then ?_
       refine ex_block ?_
       refine nx_then ?_
       refine cd_seq ?_
       refine cd_region ?_
       refine st_val (ro_assign (v := .bool _) rfl) ?_
       refine st_nil ?_
       refine nx_then ?_
       refine cd_ret ?_
       refine res1 (v := .bool _) rfl rfl ?_
       exact ⟨rfl, hB⟩
set_option maxRecDepth 100000 in
set_option maxHeartbeats 400000 in
theorem copyReplyH (e n : Int) (HA : Option Addr) (hn hc : Nat) (H : List HitX) (w : World) (hh : hn = H.length) (hr : RowHt w HA H) (hl : H.length ≤ 1000) :
    Rt Try.prog 21 [.agg #[.int .i64 e, .int .i64 n, .slice HA hn hc]] w (fun v w' => (∃ A' c', v = .agg #[.int .i64 e, .int .i64 n, .slice A' H.length c'] ∧ w'.ownsRow w.heap.size 80 2 (.slice A' H.length c') H.length (H.flatMap hitV)) ∧ From w w') := by
  subst hh
  refine enter (n := 10) Try.func21 rfl rfl rfl ?_
  refine cd_seq ?_
  refine cd_region ?_
  refine st_box (v := .agg _) rfl ?_
  intro b1 w1 E1 hb1 hk1
  have hl1 := hk1.lt
  refine st_alloc SesHits_o31 ?_
  intro b2 w2 E2 hb2 hk2
  replace hk1 := hk1.from_ E2
  have hl2 := hk2.lt
  have hg2 : w.heap.size ≤ b2 := by rw [hb2]; exact ((From.rfl_.next E1)).size
  refine st_nil ?_
  refine nx_then ?_
  refine cd_seq ?_
  refine cd_region ?_
  refine st_val (ro_loadA (cs := [_, _, _]) SesHits_g31 SesHits_z31 rfl (by exact hk1.whole)) ?_
  refine st_alloc SesHits_o31 ?_
  intro b3 w3 E3 hb3 hk3
  replace hk1 := hk1.from_ E3
  replace hk2 := hk2.from_ E3
  have hl3 := hk3.lt
  have hg3 : w.heap.size ≤ b3 := by rw [hb3]; exact (((From.rfl_.next E1).next E2)).size
  refine st_putW (vs := [_, _, _]) SesHits_z31 rfl rfl (by simp [Value.oneCell']) (hk3) rfl ?_
  intro w4 O1 P1
  replace hk1 := hk1.only O1 (by omega)
  replace hk2 := hk2.only O1 (by omega)
  refine st_nil ?_
  refine nx_then ?_
  refine cd_seq ?_
  refine cd_region ?_
  refine st_val (ro_fieldAddr SesHits_f31_2 rfl) ?_
  refine st_val (ro_load SesHits_g29 rfl (by exact hk1.rd 2 rfl)) ?_
  have hB7 : From w w4 := ((((From.rfl_.next E1).next E2).next E3).only O1 (hg3))
  refine st_call SesHits_k43 (copyHits_rt HA hc H _ (hr.from_ ((((From.rfl_.next E1).next E2).next E3).only O1 (hg3))) hl) ?_
  rintro v7 w5 ⟨⟨A7, c7, rfl, ho7⟩, E7⟩
  replace P1 := P1.from_ E7
  replace hk2 := hk2.from_ E7
  replace ho7 := own_le ho7 hB7.size
  refine st_val (ro_fieldAddr SesHits_f31_2 rfl) ?_
  refine st_put (v := .slice _ _ _) SesHits_z29 rfl rfl rfl (P1) (by show 0 + 2 < 3; decide) ?_
  intro w6 O2 P2
  replace hk2 := hk2.only O2 (by omega)
  have P2b : Blk w6 b3 31 [.int .i64 e, .int .i64 n, .slice A7 H.length c7].toArray := P2
  replace ho7 := own_only3 ho7 O2 (own_off ho7 P1 (by decide))
  refine st_nil ?_
  refine nx_then ?_
  refine cd_seq ?_
  refine cd_region ?_
  refine st_val (ro_loadA (cs := [_, _, _]) SesHits_g31 SesHits_z31 rfl (by exact P2b.whole)) ?_
  refine st_putW (vs := [_, _, _]) SesHits_z31 rfl rfl (by simp [Value.oneCell']) (hk2) rfl ?_
  intro w7 O3 P3
  replace ho7 := own_only3 ho7 O3 (own_off ho7 hk2 (by decide))
  refine st_nil ?_
  refine nx_then ?_
  refine cd_ret ?_
  refine resr1 rfl (rv_cellA (cs := [_, _, _]) SesHits_g31 SesHits_z31 rfl (by exact P3.whole)) ?_
  exact ⟨⟨A7, c7, rfl, ho7⟩, (((((((From.rfl_.next E1).next E2).next E3).only O1 (hg3)).next E7).only O2 (hg3)).only O3 (hg2))⟩
set_option maxRecDepth 100000 in
set_option maxHeartbeats 400000 in
theorem copySessionH (x : Ses) (H : List HitX) (w : World) (hx : x.hl = H.length) (hr : RowHt w x.H H) (hl : H.length ≤ 1000) :
    Rt Try.prog 31 [.agg #[.int .i64 x.c, .int .i64 x.s, .int .i64 x.e, .int .i64 x.n, .slice x.H x.hl x.hc, .int .i64 x.u]] w (fun v w' => (∃ A' c', v = .agg (sesV { x with H := A', hl := H.length, hc := c' }).toArray ∧ w'.ownsRow w.heap.size 80 2 (.slice A' H.length c') H.length (H.flatMap hitV)) ∧ From w w') := by
  obtain ⟨c, s, e, n, HA, hl0, hc, u⟩ := x
  simp only at hx hr
  refine enter (n := 10) Try.func31 rfl rfl rfl ?_
  refine cd_seq ?_
  refine cd_region ?_
  refine st_box (v := .agg _) rfl ?_
  intro b1 w1 E1 hb1 hk1
  have hl1 := hk1.lt
  refine st_alloc SesHits_o60 ?_
  intro b2 w2 E2 hb2 hk2
  replace hk1 := hk1.from_ E2
  have hl2 := hk2.lt
  have hg2 : w.heap.size ≤ b2 := by rw [hb2]; exact ((From.rfl_.next E1)).size
  refine st_nil ?_
  refine nx_then ?_
  refine cd_seq ?_
  refine cd_region ?_
  refine st_val (ro_loadA (cs := [_, _, _, _, _, _]) SesHits_g60 SesHits_z60 rfl (by exact hk1.whole)) ?_
  refine st_alloc SesHits_o60 ?_
  intro b3 w3 E3 hb3 hk3
  replace hk1 := hk1.from_ E3
  replace hk2 := hk2.from_ E3
  have hl3 := hk3.lt
  have hg3 : w.heap.size ≤ b3 := by rw [hb3]; exact (((From.rfl_.next E1).next E2)).size
  refine st_putW (vs := [_, _, _, _, _, _]) SesHits_z60 rfl rfl (by simp [Value.oneCell']) (hk3) rfl ?_
  intro w4 O1 P1
  replace hk1 := hk1.only O1 (by omega)
  replace hk2 := hk2.only O1 (by omega)
  refine st_nil ?_
  refine nx_then ?_
  refine cd_seq ?_
  refine cd_region ?_
  refine st_val (ro_fieldAddr SesHits_f60_2 rfl) ?_
  refine st_val (ro_loadA (cs := [_, _, _]) SesHits_g31 SesHits_z31 rfl (by exact rep_of hk1)) ?_
  have hB7 : From w w4 := ((((From.rfl_.next E1).next E2).next E3).only O1 (hg3))
  refine st_call SesHits_k21 (copyReplyH e n HA hl0 hc H _ hx (hr.from_ ((((From.rfl_.next E1).next E2).next E3).only O1 (hg3))) hl) ?_
  rintro v7 w5 ⟨⟨A7, c7, rfl, ho7⟩, E7⟩
  replace P1 := P1.from_ E7
  replace hk2 := hk2.from_ E7
  replace ho7 := own_le ho7 hB7.size
  refine st_val (ro_fieldAddr SesHits_f60_2 rfl) ?_
  refine st_putA (vs := [.int .i64 e, .int .i64 n, .slice A7 H.length c7]) (i := 0 + 2) SesHits_z31 rfl rfl (by simp [Value.oneCell']) P1 (by show 0 + 2 + 3 ≤ 6; decide) ?_
  intro w6 O2 P2
  replace hk2 := hk2.only O2 (by omega)
  replace ho7 := own_only3 ho7 O2 (own_off ho7 P1 (by decide))
  have P2b : Blk w6 b3 60 [.int .i64 c, .int .i64 s, .int .i64 e, .int .i64 n, .slice A7 H.length c7, .int .i64 u].toArray := P2
  refine st_nil ?_
  refine nx_then ?_
  refine cd_seq ?_
  refine cd_region ?_
  refine st_val (ro_loadA (cs := [_, _, _, _, _, _]) SesHits_g60 SesHits_z60 rfl (by exact P2b.whole)) ?_
  refine st_putW (vs := [_, _, _, _, _, _]) SesHits_z60 rfl rfl (by simp [Value.oneCell']) (hk2) rfl ?_
  intro w7 O3 P3
  replace ho7 := own_only3 ho7 O3 (own_off ho7 hk2 (by decide))
  refine st_nil ?_
  refine nx_then ?_
  refine cd_ret ?_
  refine resr1 rfl (rv_cellA (cs := [_, _, _, _, _, _]) SesHits_g60 SesHits_z60 rfl (by exact P3.whole)) ?_
  exact ⟨⟨A7, c7, rfl, ho7⟩, (((((((From.rfl_.next E1).next E2).next E3).only O1 (hg3)).next E7).only O2 hg3).only O3 (hg2))⟩
theorem own_two {w : World} {base base2 e e2 s s2 n m c c2 : Nat} {A B : Option Addr} {xs ys : List Value} (h : w.ownsRow base e s (.slice A n c) n xs) (k : w.ownsRow base2 e2 s2 (.slice B m c2) m ys) (hne : e ≠ e2) : (Value.slice A n c).ownBlock = none ∨ (Value.slice A n c).ownBlock ≠ B.map (·.block) := by
  rcases h.2 with ⟨h0, _⟩ | ⟨g, cap, cur, hv, hg, hh, r⟩
  · exact .inl (by rw [h0]; rfl)
  · refine .inr fun e0 => ?_
    have hb : Blk w g e cur := hh
    have := own_off k hb hne g (by rw [← e0, hv]; rfl)
    exact this rfl
def CopyOf (w : World) (base : Nat) (K L : List Ses) (HL : List (List HitX)) : Prop := ∀ i (h : i < K.length) (h1 : i < L.length) (h2 : i < HL.length), norm K[i] = norm L[i] ∧ K[i].hl = HL[i].length ∧ w.ownsRow base 80 2 (.slice K[i].H HL[i].length K[i].hc) HL[i].length (HL[i].flatMap hitV)
theorem CopyOf.from_ {w w' : World} {base : Nat} {K L : List Ses} {HL : List (List HitX)} (h : CopyOf w base K L HL) (hF : From w w') : CopyOf w' base K L HL := fun i a b c => ⟨(h i a b c).1, (h i a b c).2.1, (h i a b c).2.2.kept_from hF⟩
theorem CopyOf.grown {w w' : World} {base bs m n c : Nat} {A : Option Addr} {xs : List Value} {K L : List Ses} {HL : List (List HitX)} (h : CopyOf w base K L HL) (ho : w.ownsRow bs 60 6 (.slice A n c) n xs) (hg : w.grownBy w' (A.map (·.block))) (_hm : m = m) : CopyOf w' base K L HL := fun i a b d => by
  obtain ⟨h1, h2, h3⟩ := h i a b d
  exact ⟨h1, h2, h3.kept hg (own_two h3 ho (by decide))⟩
theorem CopyOf.snoc {w : World} {base : Nat} {K L : List Ses} {HL : List (List HitX)} {y : Ses} (h : CopyOf w base K L HL) (h1 : K.length < L.length) (h2 : K.length < HL.length) (hy : norm y = norm L[K.length] ∧ y.hl = HL[K.length].length ∧ w.ownsRow base 80 2 (.slice y.H HL[K.length].length y.hc) HL[K.length].length (HL[K.length].flatMap hitV)) : CopyOf w base (K ++ [y]) L HL := fun i a b c => by
  rcases Nat.lt_or_ge i K.length with hi | hi
  · rw [List.getElem_append_left hi]
    exact h i hi b c
  · rw [List.length_append, List.length_singleton] at a
    obtain rfl : i = K.length := by omega
    rw [List.getElem_append_right (Nat.le_refl _)]
    simpa using hy
theorem CopyOf.hits {w w0 : World} {base : Nat} {K L : List Ses} {HL : List (List HitX)} (h : CopyOf w base K L HL) (hl : K.length = L.length) (h0 : HitsOf w0 L HL) : HitsOf w K HL ∧ K.map norm = L.map norm := by
  refine ⟨⟨by rw [hl]; exact h0.1, fun i a b => ?_⟩, ?_⟩
  · obtain ⟨h1, h2, h3⟩ := h i a (by omega) b
    exact ⟨h2, (h0.2 i (by omega) b).2.1, rowHt_own h3⟩
  · apply List.ext_getElem (by rw [List.length_map, List.length_map, hl])
    intro i a b
    rw [List.length_map] at a b
    rw [List.getElem_map, List.getElem_map]
    exact (h i a b (by have := h0.1; omega)).1
set_option maxRecDepth 100000 in
set_option maxHeartbeats 1000000 in
theorem copySessionsH (A : Option Addr) (c : Nat) (L : List Ses) (HL : List (List HitX)) (w : World) (hr : RowS w A L) (hl : L.length ≤ 1000) (hh : HitsOf w L HL) :
    Rt Try.prog 10 [.slice A L.length c] w (fun v w' => (∃ (K : List Ses) (A' : Option Addr) (c' : Nat), v = .slice A' K.length c' ∧ K.length = L.length ∧ w'.ownsRow w.heap.size 60 6 (.slice A' K.length c') K.length (K.flatMap sesV) ∧ CopyOf w' w.heap.size K L HL) ∧ From w w') := by
  refine enter (n := 20) Try.func10 rfl rfl rfl ?_
  refine cd_seq ?_
  refine cd_region ?_
  refine st_val (ro_assign (v := .slice _ _ _) rfl) ?_
  refine st_nil ?_
  refine nx_then ?_
  refine cd_seq ?_
  refine cd_region ?_
  refine st_val (ro_assign (v := .slice _ _ _) rfl) ?_
  refine st_nil ?_
  refine nx_then ?_
  refine cd_seq ?_
  refine cd_seq ?_
  refine cd_region ?_
  refine st_val (ro_assign (v := .int _ _) rfl) ?_
  refine st_nil ?_
  refine nx_then ?_
  refine cd_block ?_
  refine cd_loop (G := Nat × Option Addr × Nat × List Ses) [5, 6, 7, 8, 9, 10, 11, 12, 13, 14, 15, 16, 17, 18] (fun (k, A3, c3, K) => [(3, .slice A3 k c3), (4, .int .i64 (k : Nat))]) (fun (k, A3, c3, K) w' => k ≤ L.length ∧ K.length = k ∧ w'.ownsRow w.heap.size 60 6 (.slice A3 k c3) k (K.flatMap sesV) ∧ CopyOf w' w.heap.size K L HL ∧ From w w') (fun (k, _, _, _) => L.length - k) ((0, none, 0, [])) ⟨rfl, rfl, trivial⟩ ?_ ?_
  · exact ⟨Nat.zero_le _, rfl, World.ownsRow_nil _ _ _ _, fun i h => absurd h (by simp), From.rfl_⟩
  rintro ⟨k, A3, c3, K⟩ ρ1 w1 ⟨hk, hKk, ho, hcp, hB⟩
  refine cd_seq ?_
  refine cd_seq ?_
  refine cd_region ?_
  refine st_val (ro_move (v := .int _ _) rfl) ?_
  refine st_val (ro_move (v := .slice _ _ _) rfl) ?_
  refine st_val (ro_len SesHits_l22 rfl) ?_
  refine st_val (ro_lss rfl rfl) ?_
  refine st_nil ?_
  refine nx_then ?_
  refine cd_cond rfl (fun Q2 => ?_) (fun Q2 => ?_)
  · (try first | replace Q2 := bn_t Q2 | replace Q2 := bn_f Q2)
    (try first | replace Q2 := bx_t Q2 | replace Q2 := bx_f Q2 | replace Q2 := be_t Q2 | replace Q2 := be_f Q2 | replace Q2 := of_decide_eq_true Q2 | replace Q2 := of_decide_eq_false Q2)
    have hkL : k < L.length := by omega
    have hkH : k < HL.length := by have := hh.1; omega
    obtain ⟨ba, oa, rfl, hcs⟩ := hr (by omega)
    obtain ⟨q1, q2, q3⟩ := hh.2 k hkL hkH
    first
     | (exfalso; first | omega | contradiction | (cases Q2; done))
     | skip
       refine cd_skip ?_
       refine nx_then ?_
       refine cd_seq ?_
       refine cd_block ?_
       refine cd_region ?_
       refine st_val (ro_move (v := .slice _ _ _) rfl) ?_
       refine st_val (ro_move (v := .slice _ _ _) rfl) ?_
       refine st_val (ro_move (v := .int _ _) rfl) ?_
       refine st_val (ro_indexAddrN SesHits_e22 rfl rfl (by omega)) ?_
       refine st_val (ro_loadA (cs := [_, _, _, _, _, _]) SesHits_g60 SesHits_z60 rfl (by exact rangeF hB (hcs k hkL))) ?_
       have hB16 : From w w1 := hB
       refine st_call SesHits_k31 (copySessionH L[k] HL[k] _ q1 (q3.from_ hB) q2) ?_
       rintro v16 w3 ⟨⟨A16, c16, rfl, ho16⟩, E16⟩
       replace ho16 := own_le ho16 hB16.size
       refine st_lit (cells := (sesV ({ L[k] with H := A16, hl := HL[k].length, hc := c16 } : Ses)).toArray) SesHits_q22 rfl rfl (fillS ({ L[k] with H := A16, hl := HL[k].length, hc := c16 } : Ses)) ?_
       intro b17 w4 E17 hb17 hk17
       refine st_append (a0 := w) (news := sesV ({ L[k] with H := A16, hl := HL[k].length, hc := c16 } : Ses)) SesHits_q22 rfl (by decide) rfl (ho.kept_from (E16.next E17)) ((hB.next E16).next E17) rfl (ses_len ({ L[k] with H := A16, hl := HL[k].length, hc := c16 } : Ses)) (fun _ => ⟨b17, 0, rfl, hk17.whole⟩) (fun h => by cases h) (by simp [sesV, Value.oneCell']) (by omega) (by omega) ?_
       intro A18 c18 w5 ho18 B18 hg18
       refine st_val (ro_assign (v := .slice _ _ _) rfl) ?_
       refine st_nil ?_
       refine nx_block ?_
       refine nx_then ?_
       refine cd_region ?_
       refine st_val (ro_move (v := .int _ _) rfl) ?_
       refine st_val (ro_addN (b := 1) rfl rfl (by omega)) ?_
       refine st_val (ro_assign (v := .int _ _) rfl) ?_
       refine st_nil ?_
       refine nx_cut ((k + 1, A18, c18, K ++ [({ L[k] with H := A16, hl := HL[k].length, hc := c16 } : Ses)])) ⟨(by first | rfl | (refine int_eq ?_; omega)), (by first | rfl | (refine int_eq ?_; omega)), trivial⟩ (by (iterate 32 refine agr_cons rfl ?_); exact agr_rfl) ⟨?_, ?_⟩
       · refine ⟨by omega, by rw [List.length_append, hKk]; rfl, by rw [List.flatMap_append]; simpa using ho18, ?_, B18⟩
         have hcp2 := (hcp.from_ (E16.next E17)).grown (m := 0) (ho.kept_from (E16.next E17)) hg18 rfl
         have ho17 := (ho16.kept_from E17).kept hg18 (own_two (ho16.kept_from E17) (ho.kept_from (E16.next E17)) (by decide))
         subst hKk
         exact hcp2.snoc hkL hkH ⟨rfl, rfl, ho17⟩
       · show L.length - (k + 1) < L.length - k; omega
  · (try first | replace Q2 := bn_t Q2 | replace Q2 := bn_f Q2)
    (try first | replace Q2 := bx_t Q2 | replace Q2 := bx_f Q2 | replace Q2 := be_t Q2 | replace Q2 := be_f Q2 | replace Q2 := of_decide_eq_true Q2 | replace Q2 := of_decide_eq_false Q2)
    first
     | (exfalso; first | omega | contradiction | (cases Q2; done))
     | skip
       refine cd_exit ?_
       refine ex_then ?_
       refine ex_then ?_
       refine ex_block ?_
       refine nx_then ?_
       refine cd_seq ?_
       refine cd_region ?_
       refine st_val (ro_move (v := .slice _ _ _) rfl) ?_
       refine st_val (ro_assign (v := .slice _ _ _) rfl) ?_
       refine st_nil ?_
       refine nx_then ?_
       refine cd_ret ?_
       refine res1 (v := .slice _ _ _) rfl rfl ?_
       obtain rfl : k = L.length := by omega
       exact ⟨⟨K, A3, c3, by rw [hKk], hKk, by rw [hKk]; exact ho, hcp⟩, hB⟩
end Go.Proofs.Ytbikemhokgcboaa
