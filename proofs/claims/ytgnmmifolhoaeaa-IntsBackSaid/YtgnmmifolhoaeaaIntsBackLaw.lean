/- The law IntsBack. -/
import Derived.Test.YtgnmmifolhoaeaaIntsLaws2
import Derived.Test.YtgnmmifolhoaeaaFast8
namespace Go.Proofs.Ytgnmmifolhoaeaa
open Go.RowKit
open Go.ChangeShapes Go.WideShapes Go.ChangeAt
theorem IntsBackLaw_q24 : litQ Try.prog 24 = some (5, 1, 1, (.int .u8 0)) := by kernel_rfl
theorem IntsBackLaw_e24 : elemQ Try.prog 24 = some (5, 1) := by kernel_rfl
theorem IntsBackLaw_k19 : callable Try.prog 19 = true := by kernel_rfl
theorem IntsBackLaw_k20 : callable Try.prog 20 = true := by kernel_rfl
theorem IntsBackLaw_l22 : (elemQ Try.prog 22).isSome = true := by kernel_rfl
theorem IntsBackLaw_e22 : elemQ Try.prog 22 = some (26, 4) := by kernel_rfl
theorem IntsBackLaw_g26 : aggQ Try.prog 26 = some true := by kernel_rfl
theorem IntsBackLaw_z26 : sizeQ Try.prog 26 = some 4 := by kernel_rfl
theorem IntsBackLaw_o26 : zeroQ Try.prog 26 = some (.agg #[.int .i64 0, .slice none 0 0, .int .i64 0, .slice none 0 0]) := by kernel_rfl
theorem IntsBackLaw_k7 : callable Try.prog 7 = true := by kernel_rfl
theorem IntsBackLaw_f26_0 : fieldQ Try.prog 26 0 = some 0 := by kernel_rfl
theorem IntsBackLaw_g3 : aggQ Try.prog 3 = some false := by kernel_rfl
theorem IntsBackLaw_f26_1 : fieldQ Try.prog 26 1 = some 1 := by kernel_rfl
theorem IntsBackLaw_g23 : aggQ Try.prog 23 = some false := by kernel_rfl
theorem IntsBackLaw_k9 : callable Try.prog 9 = true := by kernel_rfl
theorem IntsBackLaw_k12 : callable Try.prog 12 = true := by kernel_rfl
theorem IntsBackLaw_k14 : callable Try.prog 14 = true := by kernel_rfl
theorem IntsBackLaw_l23 : (elemQ Try.prog 23).isSome = true := by kernel_rfl
theorem IntsBackLaw_p29 : Try.prog.underlying 29 = some (.pointer (Try.prog.pointee 29)) := by kernel_rfl
theorem IntsBackLaw_k13 : callable Try.prog 13 = true := by kernel_rfl
theorem IntsBackLaw_l24 : (elemQ Try.prog 24).isSome = true := by kernel_rfl
theorem IntsBackLaw_g5 : aggQ Try.prog 5 = some false := by kernel_rfl
theorem IntsBackLaw_z5 : sizeQ Try.prog 5 = some 1 := by kernel_rfl
theorem IntsBackLaw_k18 : callable Try.prog 18 = true := by kernel_rfl
theorem parse_bad (W n : Int) (A : Option Addr) (c m : Nat) (b : List Nat) (w : World) (hm : m = b.length) (hr : RowOf bV w A b) (hl : b.length ≤ 140737488351232) (h8 : ∀ x ∈ b, x < 256) (hbad : ¬ GoodP W n b) :
    Rt Try.prog 20 [.int .i64 W, .int .i64 n, .slice A m c] w fun v w' => v = .tuple #[.pointer none, .int .i64 1] ∧ From w w' := by
  subst hm
  refine Rt.mono (parse_any W n A c b w hr hl h8) fun v w' ⟨h, hF⟩ => ⟨?_, hF⟩
  rcases h with ⟨rfl, _⟩ | ⟨g, l, _, hg, _⟩
  · rfl
  · exact absurd hg hbad
theorem restOf_zero (A : Option Addr) (c sz : Nat) : restOf A c 0 sz = A := by
  unfold restOf
  split
  · rfl
  · cases A with
    | none => rfl
    | some a => simp [Addr.add_zero']
theorem own_cap {w : World} {base e s n c m : Nat} {A : Option Addr} {xs : List Value} (h : w.ownsRow base e s (.slice A n c) m xs) : m ≤ c ∨ m = 0 := by
  rcases h.2 with ⟨_, h0⟩ | ⟨g, cap, cur, hv, _, _, h3, _⟩
  · exact .inr h0
  · simp only [Value.slice.injEq] at hv
    exact .inl (by omega)
theorem row_take {w : World} {A : Option Addr} {l : List Nat} (h : RowOf bV w A l) (k : Nat) : RowOf bV w A (l.take k) := fun h0 => by
  rw [List.length_take] at h0
  obtain ⟨b, o, hA, hc⟩ := h (by omega)
  refine ⟨b, o, hA, fun i hi => ?_⟩
  rw [List.length_take] at hi
  rw [List.getElem_take]
  exact hc i (by omega)
theorem bad_len {W n : Nat} {b : List Nat} (h : b.length ≠ byteCnt W n) : ¬ GoodP (W : Int) (n : Int) b := fun ⟨_, _, _, _, h5, _⟩ => h (by simpa using h5)
theorem bad_top {W n : Nat} {b : List Nat} (hl : b.length = byteCnt W n) (h0 : 0 < b.length) (hW : W * n % 8 ≠ 0) : ¬ GoodP (W : Int) (n : Int) (b.set (b.length - 1) (b[b.length - 1]'(by omega) ||| 128)) := by
  rintro ⟨_, _, _, _, _, h6⟩
  simp only [Int.toNat_natCast] at h6
  have hc := byteCnt_ge W n
  have hcm := Nat.mul_comm W n
  have hlt : n * W < 8 * byteCnt W n := by
    unfold byteCnt at hc ⊢
    omega
  have h7 := h6 (8 * (b.length - 1) + 7) (by omega)
  rw [bitAt_in (by rw [List.length_set]; omega)] at h7
  have e1 : (8 * (b.length - 1) + 7) / 8 = b.length - 1 := by omega
  have e2 : (8 * (b.length - 1) + 7) % 8 = 7 := by omega
  simp only [e1, e2, List.getElem_set_self, Nat.testBit_or] at h7
  have : (128 : Nat).testBit 7 = true := by decide
  rw [this, Bool.or_true] at h7
  cases h7
theorem or_lt {a : Nat} (h : a < 256) : a ||| 128 < 256 := Nat.or_lt_two_pow (n := 8) h (by decide)
set_option maxRecDepth 100000 in
set_option maxHeartbeats 4000000 in
theorem intsBack_law (A : Option Addr) (c : Nat) (xs : List askT.den) (w : World) (hl : xs.length * askT.bytes ≤ 140737488351232) (hel : 0 < xs.length → ∃ b o, A = some ⟨b, o, none⟩ ∧ ∀ (i : Nat) (hi : i < xs.length), askT.At w (fun j => w.cell? ⟨b, o + i * askT.size + j, none⟩) xs[i]) :
    Rt Try.prog 5 [.slice A xs.length c] w (fun v w' => v = .bool true ∧ From w w') := by
  have hlen : xs.length * 64 ≤ 140737488351232 := hl
  refine enter (n := 146) Try.func5 rfl rfl rfl ?_
  refine cd_seq ?_
  refine cd_region ?_
  refine st_val (ro_assign (v := .bool _) rfl) ?_
  refine st_nil ?_
  refine nx_then ?_
  refine cd_seq ?_
  refine cd_seq ?_
  refine cd_region ?_
  refine st_val (ro_assign (v := .int _ _) rfl) ?_
  refine st_nil ?_
  refine nx_then ?_
  refine cd_block ?_
  refine cd_loop (G := Nat) [2, 4, 5, 6, 7, 8, 9, 10, 11, 12, 13, 14, 15, 16, 17, 18, 19, 20, 21, 22, 23, 24, 25, 26, 27, 28, 29, 30, 31, 32, 33, 34, 35, 36, 37, 38, 39, 40, 41, 42, 43, 44, 45, 46, 47, 48, 49, 50, 51, 52, 53, 54, 55, 56, 57, 58, 59, 60, 61, 62, 63, 64, 65, 66, 67, 68, 69, 70, 71, 72, 73, 74, 75, 76, 77, 78, 79, 80, 81, 82, 83, 84, 85, 86, 87, 88, 89, 90, 91, 92, 93, 94, 95, 96, 97, 98, 99, 100, 101, 102, 103, 104, 105, 106, 107, 108, 109, 110, 111, 112, 113, 114, 115, 116, 117, 118, 119, 120, 121, 122, 123, 124, 125, 126, 127, 128, 129, 130, 131, 132, 133, 134, 135, 136, 137, 138, 139, 140, 141, 142, 143, 144] (fun k => [(3, .int .i64 (k : Nat))]) (fun k w' => k ≤ xs.length ∧ From w w') (fun k => xs.length - k) (0) ⟨rfl, trivial⟩ ?_ ?_
  · exact ⟨Nat.zero_le _, From.rfl_⟩
  rintro k ρ1 w1 ⟨hk, hB⟩
  refine cd_seq ?_
  refine cd_seq ?_
  refine cd_region ?_
  refine st_val (ro_move (v := .int _ _) rfl) ?_
  refine st_val (ro_move (v := .slice _ _ _) rfl) ?_
  refine st_val (ro_len IntsBackLaw_l22 rfl) ?_
  refine st_val (ro_lss rfl rfl) ?_
  refine st_val (ro_move (v := .bool _) rfl) ?_
  refine st_split (t := 21) rfl (fun Q2 => ?_) (fun Q2 => ?_)
  · (try first | replace Q2 := bn_t Q2 | replace Q2 := bn_f Q2)
    (try first | replace Q2 := bx_t Q2 | replace Q2 := bx_f Q2 | replace Q2 := be_t Q2 | replace Q2 := be_f Q2 | replace Q2 := of_decide_eq_true Q2 | replace Q2 := of_decide_eq_false Q2)
    first
     | (exfalso; first | omega | (simp at *; done) | contradiction | (cases Q2; done))
     | skip
       refine st_unguard rfl ?_
       refine st_val (ro_move (v := .int _ _) rfl) ?_
       refine st_unguard rfl ?_
       refine st_val (ro_lss rfl rfl) ?_
       refine st_val (ro_pickT (v := .bool _) rfl rfl) ?_
       refine st_nil ?_
       refine nx_then ?_
       refine cd_cond rfl (fun Q3 => ?_) (fun Q3 => ?_)
       · (try first | replace Q3 := bn_t Q3 | replace Q3 := bn_f Q3)
         (try first | replace Q3 := bx_t Q3 | replace Q3 := bx_f Q3 | replace Q3 := be_t Q3 | replace Q3 := be_f Q3 | replace Q3 := of_decide_eq_true Q3 | replace Q3 := of_decide_eq_false Q3)
         obtain ⟨b, o, rfl, hel2⟩ := hel (by omega)
         obtain ⟨W, N, A1, ca, L, A2, cb, M, hask⟩ := ask_at (hel2 k (by omega))
         first
          | (exfalso; first | omega | (simp at *; done) | contradiction | (cases Q3; done))
          | skip
            refine cd_skip ?_
            refine nx_then ?_
            refine cd_seq ?_
            refine cd_block ?_
            refine cd_seq ?_
            refine cd_region ?_
            refine st_val (ro_move (v := .slice _ _ _) rfl) ?_
            refine st_val (ro_move (v := .int _ _) rfl) ?_
            refine st_val (ro_indexAddrN IntsBackLaw_e22 rfl rfl (by omega)) ?_
            refine st_val (ro_loadA (cs := [_, _, _, _]) IntsBackLaw_g26 IntsBackLaw_z26 rfl (by exact rangeF hB hask.cells)) ?_
            refine st_alloc IntsBackLaw_o26 ?_
            intro b4 w4 E4 hb4 hk4
            refine st_putW (vs := [_, _, _, _]) IntsBackLaw_z26 rfl rfl (by simp [Value.oneCell']) (hk4) rfl ?_
            intro w5 O4 P4
            refine st_nil ?_
            refine nx_then ?_
            refine cd_seq ?_
            refine cd_seq ?_
            refine cd_region ?_
            refine st_val (ro_loadA (cs := [_, _, _, _]) IntsBackLaw_g26 IntsBackLaw_z26 rfl (by exact P4.whole)) ?_
            refine st_call IntsBackLaw_k7 (heavy_any W N A1 A2 L.length ca M.length cb _) ?_
            rintro v32 w6 ⟨rfl, E32⟩
            refine st_nil ?_
            refine nx_then ?_
            refine cd_cond rfl (fun Q7 => ?_) (fun Q7 => ?_)
            · (try first | replace Q7 := bn_t Q7 | replace Q7 := bn_f Q7)
              (try first | replace Q7 := bx_t Q7 | replace Q7 := bx_f Q7 | replace Q7 := be_t Q7 | replace Q7 := be_f Q7 | replace Q7 := of_decide_eq_true Q7 | replace Q7 := of_decide_eq_false Q7)
              first
               | (exfalso; first | omega | (simp at *; done) | contradiction | (cases Q7; done))
               | skip
                 refine cd_seq ?_
                 refine cd_region ?_
                 refine st_val (ro_assign (v := .bool _) rfl) ?_
                 refine st_nil ?_
                 refine nx_then ?_
                 refine cd_ret ?_
                 refine rt_then ?_
                 refine rt_block ?_
                 refine rt_then ?_
                 refine rt_then ?_
                 refine rt_block ?_
                 refine rt_then ?_
                 refine res1 (v := .bool _) rfl rfl ?_
                 exact ⟨rfl, (((hB.next E4).only O4 (by rw [hb4]; exact hB.size)).next E32)⟩
            · (try first | replace Q7 := bn_t Q7 | replace Q7 := bn_f Q7)
              (try first | replace Q7 := bx_t Q7 | replace Q7 := bx_f Q7 | replace Q7 := be_t Q7 | replace Q7 := be_f Q7 | replace Q7 := of_decide_eq_true Q7 | replace Q7 := of_decide_eq_false Q7)
              first
               | (exfalso; first | omega | (simp at *; done) | contradiction | (cases Q7; done))
               | skip
                 refine cd_skip ?_
                 refine nx_then ?_
                 refine cd_seq ?_
                 refine cd_region ?_
                 refine st_val (ro_fieldAddr IntsBackLaw_f26_0 rfl) ?_
                 refine st_val (ro_load IntsBackLaw_g3 rfl (by first | (first | exact (P4.from_ (From.rfl_.next E32)).rd 0 rfl | exact (P4.from_ (From.rfl_.next E32)).rd 1 rfl | exact (P4.from_ (From.rfl_.next E32)).rd 2 rfl | exact (P4.from_ (From.rfl_.next E32)).rd 3 rfl))) ?_
                 refine st_val (ro_fieldAddr IntsBackLaw_f26_1 rfl) ?_
                 refine st_val (ro_load IntsBackLaw_g23 rfl (by first | (first | exact (P4.from_ (From.rfl_.next E32)).rd 0 rfl | exact (P4.from_ (From.rfl_.next E32)).rd 1 rfl | exact (P4.from_ (From.rfl_.next E32)).rd 2 rfl | exact (P4.from_ (From.rfl_.next E32)).rd 3 rfl))) ?_
                 refine st_call IntsBackLaw_k9 (new_rt W A1 ca L _ (hask.rowL.from_ (((hB.next E4).only O4 (by rw [hb4]; exact hB.size)).next E32)) (by omega) hask.ltL) ?_
                 rintro v38 w8 ⟨hn38, E38⟩
                 rcases hn38 with ⟨rfl, hm⟩ | ⟨g, W1, rfl, rfl, hm, hlt, hW, hI⟩
                 · refine st_val (ro_move (v := .tuple _) rfl) ?_
                   refine st_val (ro_extract rfl rfl) ?_
                   refine st_val (ro_extract rfl rfl) ?_
                   refine st_val (ro_assign (v := .pointer _) rfl) ?_
                   refine st_val (ro_assign (v := .int _ _) rfl) ?_
                   refine st_nil ?_
                   refine nx_then ?_
                   refine cd_seq ?_
                   refine cd_seq ?_
                   refine cd_region ?_
                   refine st_val (ro_move (v := .int _ _) rfl) ?_
                   refine st_call IntsBackLaw_k12 (num_any _ _) ?_
                   rintro v42 w9 ⟨rfl, rfl⟩
                   refine st_val (ro_neq rfl rfl) ?_
                   refine st_nil ?_
                   refine nx_then ?_
                   refine cd_cond rfl (fun Q10 => ?_) (fun Q10 => ?_)
                   · (try first | replace Q10 := bn_t Q10 | replace Q10 := bn_f Q10)
                     (try first | replace Q10 := bx_t Q10 | replace Q10 := bx_f Q10 | replace Q10 := be_t Q10 | replace Q10 := be_f Q10 | replace Q10 := of_decide_eq_true Q10 | replace Q10 := of_decide_eq_false Q10)
                     first
                      | (exfalso; first | omega | (simp at *; done) | contradiction | (cases Q10; done))
                      | skip
                        refine cd_exit ?_
                        refine ex_then ?_
                        refine ex_block ?_
                        refine nx_then ?_
                        refine cd_region ?_
                        refine st_val (ro_move (v := .int _ _) rfl) ?_
                        refine st_val (ro_addN (b := 1) rfl rfl (by omega)) ?_
                        refine st_val (ro_assign (v := .int _ _) rfl) ?_
                        refine st_nil ?_
                        refine nx_cut (k + 1) ⟨(by first | rfl | (refine int_eq ?_; omega)), trivial⟩ (by (iterate 175 refine agr_cons rfl ?_); exact agr_rfl) ⟨?_, ?_⟩
                        · exact ⟨by omega, ((((hB.next E4).only O4 (by rw [hb4]; exact hB.size)).next E32).next E38)⟩
                        · omega
                   · (try first | replace Q10 := bn_t Q10 | replace Q10 := bn_f Q10)
                     (try first | replace Q10 := bx_t Q10 | replace Q10 := bx_f Q10 | replace Q10 := be_t Q10 | replace Q10 := be_f Q10 | replace Q10 := of_decide_eq_true Q10 | replace Q10 := of_decide_eq_false Q10)
                     first
                      | (exfalso; first | omega | (simp at *; done) | contradiction | (cases Q10; done))
                      | skip
                        refine cd_skip ?_
                        refine nx_then ?_
                        refine cd_seq ?_
                        refine cd_region ?_
                        refine st_val (ro_move (v := .pointer _) rfl) ?_
                        have hL300 : L.length ≤ 300 := by omega
                        refine st_call IntsBackLaw_k14 (bytes_rt _ g W1 L _ hI) ?_
                        rintro v45 w11 ⟨A45, c45, bs, rfl, ho45, hl45, hp45, E45⟩
                        replace P4 := P4.from_ (((From.rfl_.next E32).next E38).next E45)
                        have hgood : GoodP (W1 : Int) (L.length : Int) bs := ⟨by omega, by omega, by omega, by omega, by simpa using hl45, fun t ht => by rw [hp45.2, if_neg (by simp only [Int.toNat_natCast] at ht; omega)]⟩
                        have hbl : bs.length ≤ 1048576 := by
                          have := (wordCount_small hW (show L.length ≤ 131072 by omega)).1
                          rw [hl45]; unfold byteCnt; omega
                        refine st_val (ro_assign (v := .slice _ _ _) rfl) ?_
                        refine st_nil ?_
                        refine nx_then ?_
                        refine cd_seq ?_
                        refine cd_region ?_
                        refine st_val (ro_fieldAddr IntsBackLaw_f26_0 rfl) ?_
                        refine st_val (ro_load IntsBackLaw_g3 rfl (by first | (first | exact (P4.from_ From.rfl_).rd 0 rfl | exact (P4.from_ From.rfl_).rd 1 rfl | exact (P4.from_ From.rfl_).rd 2 rfl | exact (P4.from_ From.rfl_).rd 3 rfl))) ?_
                        refine st_val (ro_fieldAddr IntsBackLaw_f26_1 rfl) ?_
                        refine st_val (ro_load IntsBackLaw_g23 rfl (by first | (first | exact (P4.from_ From.rfl_).rd 0 rfl | exact (P4.from_ From.rfl_).rd 1 rfl | exact (P4.from_ From.rfl_).rd 2 rfl | exact (P4.from_ From.rfl_).rd 3 rfl))) ?_
                        refine st_val (ro_len IntsBackLaw_l23 rfl) ?_
                        refine st_val (ro_move (v := .slice _ _ _) rfl) ?_
                        refine st_call IntsBackLaw_k20 (parse_any W1 L.length A45 c45 bs _ (RowOf.own ho45).2 (by omega) hp45.1) ?_
                        rintro v53 w12 ⟨hn53, E53⟩
                        replace P4 := P4.from_ (From.rfl_.next E53)
                        replace ho45 := ho45.kept_from (From.rfl_.next E53)
                        rcases hn53 with ⟨rfl, hbad⟩ | ⟨g53, l53, rfl, _, hll53, hlt53, hbits53, hI53⟩
                        · exact absurd hgood hbad
                        · have hl53 : l53 = L := nums_ext (by simpa using hll53) (by simpa using hlt53) hlt (fun t ht => by
                            have hbb := hp45.2 t
                            have hzz := hbits53 t (by simpa [hll53] using ht)
                            simp only [Int.toNat_natCast] at hzz
                            rw [hzz, hbb, if_pos (by simpa [hll53] using ht)])
                          refine st_val (ro_move (v := .tuple _) rfl) ?_
                          refine st_val (ro_extract rfl rfl) ?_
                          refine st_val (ro_extract rfl rfl) ?_
                          refine st_val (ro_assign (v := .pointer _) rfl) ?_
                          refine st_val (ro_assign (v := .int _ _) rfl) ?_
                          refine st_nil ?_
                          refine nx_then ?_
                          refine cd_seq ?_
                          apply cd_mu 15 8 [63, 64] [(57, eqp _), (58, eqp _), (59, eqp _), (60, eqp _), (61, eqp _), (62, eqp _), (63, fun v w' => ∃ A2 c2, v = .slice A2 bs.length c2 ∧ w'.ownsRow (w12).heap.size 5 1 (.slice A2 bs.length c2) bs.length (bs.map bV)), (64, fun v w' => ∃ g, v = .slice (some ⟨g, 0, none⟩) 1 1 ∧ Blk w' g 5 #[bV 0]), (65, fun v w' => ∃ A2 c2, v = .slice A2 (bs.length + 1) c2 ∧ w'.ownsRow (w12).heap.size 5 1 (.slice A2 (bs.length + 1) c2) (bs.length + 1) ((bs ++ [0]).map bV)), (66, eqp _), (56, eqp _), (67, eqp _), (68, eqp _), (10, eqp _), (11, eqp _)] (fun w' => From w12 w') (fun w' => From w12 w') (by repeat first | exact pq_body | refine pq_then ?_ | refine pq_block ?_) (by kernel_rfl) (by kernel_rfl) (by kernel_rfl) ⟨eqp_mono _, eqp_mono _, eqp_mono _, eqp_mono _, eqp_mono _, eqp_mono _, (fun _ _ _ hF ⟨A2, c2, h1, h2⟩ => ⟨A2, c2, h1, h2.kept_from hF⟩), (fun _ _ _ hF ⟨g, h1, h2⟩ => ⟨g, h1, h2.from_ hF⟩), (fun _ _ _ hF ⟨A2, c2, h1, h2⟩ => ⟨A2, c2, h1, h2.kept_from hF⟩), eqp_mono _, eqp_mono _, eqp_mono _, eqp_mono _, eqp_mono _, eqp_mono _, trivial⟩ (From.rfl_.d1) (From.rfl_.d1) (fun _ _ hF h => h.next hF) (fun _ _ hF h => h.next hF)
                          case hop =>
                           refine ⟨?_, ?_⟩
                           · rintro - w14 D14
                             show OpOK _ _ _ _ _ _ _
                             exact ok_pure (ro_fieldAddr IntsBackLaw_f26_0 rfl) rfl
                           refine ⟨?_, ?_⟩
                           · rintro - w15 D15
                             rintro _ rfl
                             show OpOK _ _ _ _ _ _ _
                             exact ok_pure (ro_load IntsBackLaw_g3 rfl (by first | (first | exact (P4.from_ (From.rfl_.next D15)).rd 0 rfl | exact (P4.from_ (From.rfl_.next D15)).rd 1 rfl | exact (P4.from_ (From.rfl_.next D15)).rd 2 rfl | exact (P4.from_ (From.rfl_.next D15)).rd 3 rfl))) rfl
                           refine ⟨?_, ?_⟩
                           · rintro - w16 D16
                             show OpOK _ _ _ _ _ _ _
                             exact ok_pure (ro_fieldAddr IntsBackLaw_f26_1 rfl) rfl
                           refine ⟨?_, ?_⟩
                           · rintro - w17 D17
                             rintro _ rfl
                             show OpOK _ _ _ _ _ _ _
                             exact ok_pure (ro_load IntsBackLaw_g23 rfl (by first | (first | exact (P4.from_ (From.rfl_.next D17)).rd 0 rfl | exact (P4.from_ (From.rfl_.next D17)).rd 1 rfl | exact (P4.from_ (From.rfl_.next D17)).rd 2 rfl | exact (P4.from_ (From.rfl_.next D17)).rd 3 rfl))) rfl
                           refine ⟨?_, ?_⟩
                           · rintro - w18 D18
                             rintro _ rfl
                             show OpOK _ _ _ _ _ _ _
                             exact ok_pure (ro_len IntsBackLaw_l23 rfl) rfl
                           refine ⟨?_, ?_⟩
                           · rintro - w19 D19
                             show OpOK _ _ _ _ _ _ _
                             exact ok_pure (ro_move (v := .slice _ _ _) rfl) rfl
                           refine ⟨?_, ?_⟩
                           · rintro - w20 D20
                             rintro _ rfl
                             show OpOK _ _ _ _ _ _ _
                             refine ok_call IntsBackLaw_k19 ((copyBytes_any A45 c45 bs _ ((RowOf.own (ho45.kept_from (From.rfl_.next D20))).2) (by omega)).mono ?_)
                             rintro v w2 ⟨A2, c2, rfl, ho2, hE2⟩
                             exact ⟨hE2, A2, c2, rfl, ownsRow_le ho2 D20.size⟩
                           refine ⟨?_, ?_⟩
                           · rintro - w21 D21
                             show OpOK _ _ _ _ _ _ _
                             exact ok_val (ro_lit1 IntsBackLaw_q24 rfl rfl rfl) (From.rfl_.new _) ⟨_, rfl, Blk.new _ _ _⟩
                           refine ⟨?_, ?_⟩
                           · intro h; cases h
                           refine ⟨?_, ?_⟩
                           · rintro - w23 D23
                             rintro _ rfl _ rfl v23_65 ⟨A23, c23, rfl, ho23⟩
                             show OpOK _ _ _ _ _ _ _
                             refine ok_call IntsBackLaw_k20 ((parse_bad W1 L.length A23 c23 (bs.length + 1) (bs ++ [0]) _ (by simp) (RowOf.own ho23).2 (by simp; omega) (fun x hx => by
                               rcases List.mem_append.1 hx with h | h
                               · exact hp45.1 x h
                               · simp only [List.mem_singleton] at h; omega) (bad_len (by rw [List.length_append, List.length_singleton]; omega))).mono ?_)
                             rintro v w2 ⟨rfl, hE2⟩
                             exact ⟨hE2, rfl⟩
                           refine ⟨?_, ?_⟩
                           · rintro - w24 D24
                             rintro _ rfl
                             show OpOK _ _ _ _ _ _ _
                             exact ok_pure (ro_move (v := .tuple _) rfl) rfl
                           refine ⟨?_, ?_⟩
                           · rintro - w25 D25
                             rintro _ rfl
                             show OpOK _ _ _ _ _ _ _
                             exact ok_pure (ro_extract rfl rfl) rfl
                           refine ⟨?_, ?_⟩
                           · rintro - w26 D26
                             rintro _ rfl
                             show OpOK _ _ _ _ _ _ _
                             exact ok_pure (ro_extract rfl rfl) rfl
                           refine ⟨?_, ?_⟩
                           · rintro - w27 D27
                             rintro _ rfl
                             show OpOK _ _ _ _ _ _ _
                             exact ok_pure (ro_assign (v := .pointer _) rfl) rfl
                           refine ⟨?_, ?_⟩
                           · rintro - w28 D28
                             rintro _ rfl
                             show OpOK _ _ _ _ _ _ _
                             exact ok_pure (ro_assign (v := .int _ _) rfl) rfl
                           exact trivial
                          case hmu =>
                           rintro w29 D29
                           rintro v29_63 ⟨A29, c29, rfl, ho29⟩ v29_64 ⟨g29, rfl, hg29⟩
                           show MuOK _ _ _ _ _ _ _
                           refine mu_append IntsBackLaw_q24 rfl (by decide) rfl ho29 D29.size rfl rfl ⟨_, _, rfl, hg29.whole⟩ (by simp [Value.oneCell']) (by omega) (by omega) ?_
                           intro A3 c3 w3 ho3 hg3
                           have hF3 : From w12 w3 := D29.grew hg3 (fun k hk => (own_lt ho29 hk).1)
                           exact ⟨hF3, ⟨A3, c3, rfl, by rw [List.map_append]; exact ho3⟩, fun t u ht h => muR_look (by repeat first | exact trivial | refine ⟨.inl rfl, ?_⟩ | refine ⟨.inr (fun _ h => h), ?_⟩) t u ht h⟩
                          case hend =>
                           rintro w30 D30
                           rintro _ rfl _ rfl _ rfl _ rfl _ rfl _ rfl v63 _ v64 _ v65 ⟨A30, c30, rfl, ho30⟩ _ rfl _ rfl _ rfl _ rfl _ rfl _ rfl
                           show St _ _ _ _ _ _ _
                           refine st_nil ?_
                           refine nx_then ?_
                           refine cd_seq ?_
                           refine cd_seq ?_
                           refine cd_region ?_
                           refine st_val (ro_move (v := .int _ _) rfl) ?_
                           refine st_call IntsBackLaw_k12 (num_any _ _) ?_
                           rintro v70 w31 ⟨rfl, rfl⟩
                           refine st_val (ro_neq rfl rfl) ?_
                           refine st_val (ro_move (v := .bool _) rfl) ?_
                           refine st_split (t := 72) rfl (fun Q32 => ?_) (fun Q32 => ?_)
                           · (try first | replace Q32 := bn_t Q32 | replace Q32 := bn_f Q32)
                             (try first | replace Q32 := bx_t Q32 | replace Q32 := bx_f Q32 | replace Q32 := be_t Q32 | replace Q32 := be_f Q32 | replace Q32 := of_decide_eq_true Q32 | replace Q32 := of_decide_eq_false Q32)
                             first
                              | (exfalso; first | omega | (simp at *; done) | contradiction | (cases Q32; done))
                              | skip
                                refine st_gno rfl rfl ?_
                                refine st_gno rfl rfl ?_
                                refine st_val (ro_pickT (v := .bool _) rfl rfl) ?_
                                refine st_val (ro_move (v := .bool _) rfl) ?_
                                refine st_gno rfl rfl ?_
                                refine st_gno rfl rfl ?_
                                refine st_gno rfl rfl ?_
                                refine st_gno rfl rfl ?_
                                refine st_gno rfl rfl ?_
                                refine st_gno rfl rfl ?_
                                refine st_gno rfl rfl ?_
                                refine st_val (ro_pickT (v := .bool _) rfl rfl) ?_
                                refine st_val (ro_move (v := .bool _) rfl) ?_
                                refine st_gno rfl rfl ?_
                                refine st_gno rfl rfl ?_
                                refine st_gno rfl rfl ?_
                                refine st_val (ro_pickT (v := .bool _) rfl rfl) ?_
                                refine st_nil ?_
                                refine nx_then ?_
                                refine cd_condT rfl ?_
                                refine cd_seq ?_
                                refine cd_region ?_
                                refine st_val (ro_assign (v := .bool _) rfl) ?_
                                refine st_nil ?_
                                refine nx_then ?_
                                refine cd_ret ?_
                                refine rt_then ?_
                                refine rt_block ?_
                                refine rt_then ?_
                                refine rt_then ?_
                                refine rt_block ?_
                                refine rt_then ?_
                                refine res1 (v := .bool _) rfl rfl ?_
                                exact ⟨rfl, (((((((hB.next E4).only O4 (by rw [hb4]; exact hB.size)).next E32).next E38).next E45).next E53).next D30)⟩
                           · (try first | replace Q32 := bn_t Q32 | replace Q32 := bn_f Q32)
                             (try first | replace Q32 := bx_t Q32 | replace Q32 := bx_f Q32 | replace Q32 := be_t Q32 | replace Q32 := be_f Q32 | replace Q32 := of_decide_eq_true Q32 | replace Q32 := of_decide_eq_false Q32)
                             first
                              | (exfalso; first | omega | (simp at *; done) | contradiction | (cases Q32; done))
                              | skip
                                refine st_unguard rfl ?_
                                refine st_val (ro_move (v := .pointer _) rfl) ?_
                                refine st_unguard rfl ?_
                                refine st_val (ro_eqlNil IntsBackLaw_p29 rfl rfl) ?_
                                refine st_val (ro_pickF (v := .bool _) rfl rfl) ?_
                                refine st_val (ro_move (v := .bool _) rfl) ?_
                                refine st_split (t := 76) rfl (fun Q33 => ?_) (fun Q33 => ?_)
                                · (try first | replace Q33 := bn_t Q33 | replace Q33 := bn_f Q33)
                                  (try first | replace Q33 := bx_t Q33 | replace Q33 := bx_f Q33 | replace Q33 := be_t Q33 | replace Q33 := be_f Q33 | replace Q33 := of_decide_eq_true Q33 | replace Q33 := of_decide_eq_false Q33)
                                  first
                                   | (exfalso; first | omega | (simp at *; done) | contradiction | (cases Q33; done))
                                   | skip
                                     refine st_gno rfl rfl ?_
                                     refine st_gno rfl rfl ?_
                                     refine st_gno rfl rfl ?_
                                     refine st_gno rfl rfl ?_
                                     refine st_gno rfl rfl ?_
                                     refine st_gno rfl rfl ?_
                                     refine st_gno rfl rfl ?_
                                     refine st_val (ro_pickT (v := .bool _) rfl rfl) ?_
                                     refine st_val (ro_move (v := .bool _) rfl) ?_
                                     refine st_gno rfl rfl ?_
                                     refine st_gno rfl rfl ?_
                                     refine st_gno rfl rfl ?_
                                     refine st_val (ro_pickT (v := .bool _) rfl rfl) ?_
                                     refine st_nil ?_
                                     refine nx_then ?_
                                     refine cd_condT rfl ?_
                                     refine cd_seq ?_
                                     refine cd_region ?_
                                     refine st_val (ro_assign (v := .bool _) rfl) ?_
                                     refine st_nil ?_
                                     refine nx_then ?_
                                     refine cd_ret ?_
                                     refine rt_then ?_
                                     refine rt_block ?_
                                     refine rt_then ?_
                                     refine rt_then ?_
                                     refine rt_block ?_
                                     refine rt_then ?_
                                     refine res1 (v := .bool _) rfl rfl ?_
                                     exact ⟨rfl, (((((((hB.next E4).only O4 (by rw [hb4]; exact hB.size)).next E32).next E38).next E45).next E53).next D30)⟩
                                · (try first | replace Q33 := bn_t Q33 | replace Q33 := bn_f Q33)
                                  (try first | replace Q33 := bx_t Q33 | replace Q33 := bx_f Q33 | replace Q33 := be_t Q33 | replace Q33 := be_f Q33 | replace Q33 := of_decide_eq_true Q33 | replace Q33 := of_decide_eq_false Q33)
                                  first
                                   | (exfalso; first | omega | (simp at *; done) | contradiction | (cases Q33; done))
                                   | skip
                                     refine st_unguard rfl ?_
                                     refine st_val (ro_move (v := .pointer _) rfl) ?_
                                     refine st_unguard rfl ?_
                                     refine st_val (ro_fieldAddr IntsBackLaw_f26_0 rfl) ?_
                                     refine st_unguard rfl ?_
                                     refine st_val (ro_load IntsBackLaw_g3 rfl (by first | (first | exact (P4.from_ (From.rfl_.next D30)).rd 0 rfl | exact (P4.from_ (From.rfl_.next D30)).rd 1 rfl | exact (P4.from_ (From.rfl_.next D30)).rd 2 rfl | exact (P4.from_ (From.rfl_.next D30)).rd 3 rfl))) ?_
                                     refine st_unguard rfl ?_
                                     refine st_val (ro_fieldAddr IntsBackLaw_f26_1 rfl) ?_
                                     refine st_unguard rfl ?_
                                     refine st_val (ro_load IntsBackLaw_g23 rfl (by first | (first | exact (P4.from_ (From.rfl_.next D30)).rd 0 rfl | exact (P4.from_ (From.rfl_.next D30)).rd 1 rfl | exact (P4.from_ (From.rfl_.next D30)).rd 2 rfl | exact (P4.from_ (From.rfl_.next D30)).rd 3 rfl))) ?_
                                     refine st_unguard rfl ?_
                                     refine st_call IntsBackLaw_k13 (same_eq _ g53 W1 W1 A1 ca l53 L _ (hI53.from_ (From.rfl_.next D30)) (hask.rowL.from_ (((((((hB.next E4).only O4 (by rw [hb4]; exact hB.size)).next E32).next E38).next E45).next E53).next D30)) (by omega) rfl hl53) ?_
                                     rintro v82 w34 ⟨rfl, E82⟩
                                     refine st_unguard rfl ?_
                                     refine st_val (ro_not rfl) ?_
                                     refine st_val (ro_pickF (v := .bool _) rfl rfl) ?_
                                     refine st_val (ro_move (v := .bool _) rfl) ?_
                                     refine st_split (t := 85) rfl (fun Q35 => ?_) (fun Q35 => ?_)
                                     · (try first | replace Q35 := bn_t Q35 | replace Q35 := bn_f Q35)
                                       (try first | replace Q35 := bx_t Q35 | replace Q35 := bx_f Q35 | replace Q35 := be_t Q35 | replace Q35 := be_f Q35 | replace Q35 := of_decide_eq_true Q35 | replace Q35 := of_decide_eq_false Q35)
                                       first
                                        | (exfalso; first | omega | (simp at *; done) | contradiction | (cases Q35; done))
                                        | skip
                                          refine st_gno rfl rfl ?_
                                          refine st_gno rfl rfl ?_
                                          refine st_gno rfl rfl ?_
                                          refine st_val (ro_pickT (v := .bool _) rfl rfl) ?_
                                          refine st_nil ?_
                                          refine nx_then ?_
                                          refine cd_condT rfl ?_
                                          refine cd_seq ?_
                                          refine cd_region ?_
                                          refine st_val (ro_assign (v := .bool _) rfl) ?_
                                          refine st_nil ?_
                                          refine nx_then ?_
                                          refine cd_ret ?_
                                          refine rt_then ?_
                                          refine rt_block ?_
                                          refine rt_then ?_
                                          refine rt_then ?_
                                          refine rt_block ?_
                                          refine rt_then ?_
                                          refine res1 (v := .bool _) rfl rfl ?_
                                          exact ⟨rfl, ((((((((hB.next E4).only O4 (by rw [hb4]; exact hB.size)).next E32).next E38).next E45).next E53).next D30).next E82)⟩
                                     · (try first | replace Q35 := bn_t Q35 | replace Q35 := bn_f Q35)
                                       (try first | replace Q35 := bx_t Q35 | replace Q35 := bx_f Q35 | replace Q35 := be_t Q35 | replace Q35 := be_f Q35 | replace Q35 := of_decide_eq_true Q35 | replace Q35 := of_decide_eq_false Q35)
                                       first
                                        | (exfalso; first | omega | (simp at *; done) | contradiction | (cases Q35; done))
                                        | skip
                                          refine st_unguard rfl ?_
                                          refine st_val (ro_move (v := .int _ _) rfl) ?_
                                          refine st_unguard rfl ?_
                                          refine st_call IntsBackLaw_k12 (num_any _ _) ?_
                                          rintro v87 w36 ⟨rfl, rfl⟩
                                          refine st_unguard rfl ?_
                                          refine st_val (ro_neq rfl rfl) ?_
                                          refine st_val (ro_pickF (v := .bool _) rfl rfl) ?_
                                          refine st_nil ?_
                                          refine nx_then ?_
                                          refine cd_cond rfl (fun Q37 => ?_) (fun Q37 => ?_)
                                          · (try first | replace Q37 := bn_t Q37 | replace Q37 := bn_f Q37)
                                            (try first | replace Q37 := bx_t Q37 | replace Q37 := bx_f Q37 | replace Q37 := be_t Q37 | replace Q37 := be_f Q37 | replace Q37 := of_decide_eq_true Q37 | replace Q37 := of_decide_eq_false Q37)
                                            first
                                             | (exfalso; first | omega | (simp at *; done) | contradiction | (cases Q37; done))
                                             | skip
                                               refine cd_seq ?_
                                               refine cd_region ?_
                                               refine st_val (ro_assign (v := .bool _) rfl) ?_
                                               refine st_nil ?_
                                               refine nx_then ?_
                                               refine cd_ret ?_
                                               refine rt_then ?_
                                               refine rt_block ?_
                                               refine rt_then ?_
                                               refine rt_then ?_
                                               refine rt_block ?_
                                               refine rt_then ?_
                                               refine res1 (v := .bool _) rfl rfl ?_
                                               exact ⟨rfl, ((((((((hB.next E4).only O4 (by rw [hb4]; exact hB.size)).next E32).next E38).next E45).next E53).next D30).next E82)⟩
                                          · (try first | replace Q37 := bn_t Q37 | replace Q37 := bn_f Q37)
                                            (try first | replace Q37 := bx_t Q37 | replace Q37 := bx_f Q37 | replace Q37 := be_t Q37 | replace Q37 := be_f Q37 | replace Q37 := of_decide_eq_true Q37 | replace Q37 := of_decide_eq_false Q37)
                                            first
                                             | (exfalso; first | omega | (simp at *; done) | contradiction | (cases Q37; done))
                                             | skip
                                               refine cd_skip ?_
                                               refine nx_then ?_
                                               refine cd_seq ?_
                                               refine cd_region ?_
                                               refine st_val (ro_move (v := .slice _ _ _) rfl) ?_
                                               refine st_val (ro_len IntsBackLaw_l24 rfl) ?_
                                               refine st_val (ro_gtr rfl rfl) ?_
                                               refine st_nil ?_
                                               refine nx_then ?_
                                               refine cd_cond rfl (fun Q38 => ?_) (fun Q38 => ?_)
                                               · (try first | replace Q38 := bn_t Q38 | replace Q38 := bn_f Q38)
                                                 (try first | replace Q38 := bx_t Q38 | replace Q38 := bx_f Q38 | replace Q38 := be_t Q38 | replace Q38 := be_f Q38 | replace Q38 := of_decide_eq_true Q38 | replace Q38 := of_decide_eq_false Q38)
                                                 first
                                                  | (exfalso; first | omega | (simp at *; done) | contradiction | (cases Q38; done))
                                                  | skip
                                                    refine cd_seq ?_
                                                    apply cd_drawn 16 [(94, eqp _), (95, eqp _), (96, eqp _), (97, eqp _), (98, eqp _), (99, eqp _), (100, eqp _), (101, eqp _), (102, eqp _), (103, eqp _), (104, eqp _), (93, eqp _), (105, eqp _), (106, eqp _), (12, eqp _), (13, eqp _)] (by kernel_rfl) (by kernel_rfl) ⟨eqp_mono _, eqp_mono _, eqp_mono _, eqp_mono _, eqp_mono _, eqp_mono _, eqp_mono _, eqp_mono _, eqp_mono _, eqp_mono _, eqp_mono _, eqp_mono _, eqp_mono _, eqp_mono _, eqp_mono _, eqp_mono _, trivial⟩
                                                    case hop =>
                                                     refine ⟨?_, ?_⟩
                                                     · intro w40 D40
                                                       show OpOK _ _ _ _ _ _ _
                                                       exact ok_pure (ro_fieldAddr IntsBackLaw_f26_0 rfl) rfl
                                                     refine ⟨?_, ?_⟩
                                                     · intro w41 D41
                                                       rintro _ rfl
                                                       show OpOK _ _ _ _ _ _ _
                                                       exact ok_pure (ro_load IntsBackLaw_g3 rfl (by first | (first | exact (P4.from_ (((From.rfl_.next D30).next E82).next D41)).rd 0 rfl | exact (P4.from_ (((From.rfl_.next D30).next E82).next D41)).rd 1 rfl | exact (P4.from_ (((From.rfl_.next D30).next E82).next D41)).rd 2 rfl | exact (P4.from_ (((From.rfl_.next D30).next E82).next D41)).rd 3 rfl))) rfl
                                                     refine ⟨?_, ?_⟩
                                                     · intro w42 D42
                                                       show OpOK _ _ _ _ _ _ _
                                                       exact ok_pure (ro_fieldAddr IntsBackLaw_f26_1 rfl) rfl
                                                     refine ⟨?_, ?_⟩
                                                     · intro w43 D43
                                                       rintro _ rfl
                                                       show OpOK _ _ _ _ _ _ _
                                                       exact ok_pure (ro_load IntsBackLaw_g23 rfl (by first | (first | exact (P4.from_ (((From.rfl_.next D30).next E82).next D43)).rd 0 rfl | exact (P4.from_ (((From.rfl_.next D30).next E82).next D43)).rd 1 rfl | exact (P4.from_ (((From.rfl_.next D30).next E82).next D43)).rd 2 rfl | exact (P4.from_ (((From.rfl_.next D30).next E82).next D43)).rd 3 rfl))) rfl
                                                     refine ⟨?_, ?_⟩
                                                     · intro w44 D44
                                                       rintro _ rfl
                                                       show OpOK _ _ _ _ _ _ _
                                                       exact ok_pure (ro_len IntsBackLaw_l23 rfl) rfl
                                                     refine ⟨?_, ?_⟩
                                                     · intro w45 D45
                                                       show OpOK _ _ _ _ _ _ _
                                                       exact ok_pure (ro_move (v := .slice _ _ _) rfl) rfl
                                                     refine ⟨?_, ?_⟩
                                                     · intro w46 D46
                                                       show OpOK _ _ _ _ _ _ _
                                                       exact ok_pure (ro_move (v := .slice _ _ _) rfl) rfl
                                                     refine ⟨?_, ?_⟩
                                                     · intro w47 D47
                                                       rintro _ rfl
                                                       show OpOK _ _ _ _ _ _ _
                                                       exact ok_pure (ro_len IntsBackLaw_l24 rfl) rfl
                                                     refine ⟨?_, ?_⟩
                                                     · intro w48 D48
                                                       rintro _ rfl
                                                       show OpOK _ _ _ _ _ _ _
                                                       exact ok_pure (ro_subN (b := 1) rfl rfl (by omega)) rfl
                                                     refine ⟨?_, ?_⟩
                                                     · intro w49 D49
                                                       rintro _ rfl _ rfl
                                                       show OpOK _ _ _ _ _ _ _
                                                       exact ok_pure (ro_eq (v' := .slice A45 (bs.length - 1) c45) (ro_sliceO (l := 0) (h := bs.length - 1) IntsBackLaw_e24 rfl (.inl ⟨rfl, rfl⟩) (.inr ⟨_, _, _, rfl, rfl, rfl⟩) (by omega) (by have := own_cap ho45; omega)) (by rw [restOf_zero]; rfl)) rfl
                                                     refine ⟨?_, ?_⟩
                                                     · intro w50 D50
                                                       rintro _ rfl _ rfl _ rfl
                                                       show OpOK _ _ _ _ _ _ _
                                                       refine ok_call IntsBackLaw_k20 ((parse_bad W1 L.length A45 c45 (bs.length - 1) (bs.take (bs.length - 1)) _ (by rw [List.length_take]; omega) (row_take (RowOf.own (ho45.kept_from (((From.rfl_.next D30).next E82).next D50))).2 _) (by rw [List.length_take]; omega) (fun x hx => hp45.1 x (List.mem_of_mem_take hx)) (bad_len (by rw [List.length_take]; omega))).mono ?_)
                                                       rintro v _ ⟨rfl, E50'⟩; exact ⟨E50', rfl⟩
                                                     refine ⟨?_, ?_⟩
                                                     · intro w51 D51
                                                       rintro _ rfl
                                                       show OpOK _ _ _ _ _ _ _
                                                       exact ok_pure (ro_move (v := .tuple _) rfl) rfl
                                                     refine ⟨?_, ?_⟩
                                                     · intro w52 D52
                                                       rintro _ rfl
                                                       show OpOK _ _ _ _ _ _ _
                                                       exact ok_pure (ro_extract rfl rfl) rfl
                                                     refine ⟨?_, ?_⟩
                                                     · intro w53 D53
                                                       rintro _ rfl
                                                       show OpOK _ _ _ _ _ _ _
                                                       exact ok_pure (ro_extract rfl rfl) rfl
                                                     refine ⟨?_, ?_⟩
                                                     · intro w54 D54
                                                       rintro _ rfl
                                                       show OpOK _ _ _ _ _ _ _
                                                       exact ok_pure (ro_assign (v := .pointer _) rfl) rfl
                                                     refine ⟨?_, ?_⟩
                                                     · intro w55 D55
                                                       rintro _ rfl
                                                       show OpOK _ _ _ _ _ _ _
                                                       exact ok_pure (ro_assign (v := .int _ _) rfl) rfl
                                                     exact trivial
                                                    case hend =>
                                                     intro w56 D56
                                                     rintro _ rfl _ rfl _ rfl _ rfl _ rfl _ rfl _ rfl _ rfl _ rfl _ rfl _ rfl _ rfl _ rfl _ rfl _ rfl _ rfl
                                                     show St _ _ _ _ _ _ _
                                                     refine st_nil ?_
                                                     refine nx_then ?_
                                                     refine cd_seq ?_
                                                     refine cd_seq ?_
                                                     refine cd_region ?_
                                                     refine st_val (ro_move (v := .int _ _) rfl) ?_
                                                     refine st_call IntsBackLaw_k12 (num_any _ _) ?_
                                                     rintro v108 w57 ⟨rfl, rfl⟩
                                                     refine st_val (ro_neq rfl rfl) ?_
                                                     refine st_nil ?_
                                                     refine nx_then ?_
                                                     refine cd_cond rfl (fun Q58 => ?_) (fun Q58 => ?_)
                                                     · (try first | replace Q58 := bn_t Q58 | replace Q58 := bn_f Q58)
                                                       (try first | replace Q58 := bx_t Q58 | replace Q58 := bx_f Q58 | replace Q58 := be_t Q58 | replace Q58 := be_f Q58 | replace Q58 := of_decide_eq_true Q58 | replace Q58 := of_decide_eq_false Q58)
                                                       first
                                                        | (exfalso; first | omega | (simp at *; done) | contradiction | (cases Q58; done))
                                                        | skip
                                                          refine cd_seq ?_
                                                          refine cd_region ?_
                                                          refine st_val (ro_assign (v := .bool _) rfl) ?_
                                                          refine st_nil ?_
                                                          refine nx_then ?_
                                                          refine cd_ret ?_
                                                          refine rt_then ?_
                                                          refine rt_block ?_
                                                          refine rt_then ?_
                                                          refine rt_then ?_
                                                          refine rt_block ?_
                                                          refine rt_then ?_
                                                          refine res1 (v := .bool _) rfl rfl ?_
                                                          exact ⟨rfl, (((((((((hB.next E4).only O4 (by rw [hb4]; exact hB.size)).next E32).next E38).next E45).next E53).next D30).next E82).next D56)⟩
                                                     · (try first | replace Q58 := bn_t Q58 | replace Q58 := bn_f Q58)
                                                       (try first | replace Q58 := bx_t Q58 | replace Q58 := bx_f Q58 | replace Q58 := be_t Q58 | replace Q58 := be_f Q58 | replace Q58 := of_decide_eq_true Q58 | replace Q58 := of_decide_eq_false Q58)
                                                       first
                                                        | (exfalso; first | omega | (simp at *; done) | contradiction | (cases Q58; done))
                                                        | skip
                                                          refine cd_skip ?_
                                                          refine nx_then ?_
                                                          refine cd_seq ?_
                                                          refine cd_region ?_
                                                          refine st_val (ro_fieldAddr IntsBackLaw_f26_0 rfl) ?_
                                                          refine st_val (ro_load IntsBackLaw_g3 rfl (by first | (first | exact (P4.from_ (((From.rfl_.next D30).next E82).next D56)).rd 0 rfl | exact (P4.from_ (((From.rfl_.next D30).next E82).next D56)).rd 1 rfl | exact (P4.from_ (((From.rfl_.next D30).next E82).next D56)).rd 2 rfl | exact (P4.from_ (((From.rfl_.next D30).next E82).next D56)).rd 3 rfl))) ?_
                                                          refine st_val (ro_fieldAddr IntsBackLaw_f26_1 rfl) ?_
                                                          refine st_val (ro_load IntsBackLaw_g23 rfl (by first | (first | exact (P4.from_ (((From.rfl_.next D30).next E82).next D56)).rd 0 rfl | exact (P4.from_ (((From.rfl_.next D30).next E82).next D56)).rd 1 rfl | exact (P4.from_ (((From.rfl_.next D30).next E82).next D56)).rd 2 rfl | exact (P4.from_ (((From.rfl_.next D30).next E82).next D56)).rd 3 rfl))) ?_
                                                          refine st_val (ro_len IntsBackLaw_l23 rfl) ?_
                                                          refine st_val (ro_mulN rfl rfl (by have := (wordCount_small hW (show L.length ≤ 131072 by omega)).1; omega)) ?_
                                                          refine st_val (ro_remN (b := 8) rfl rfl (by decide)) ?_
                                                          refine st_val (ro_neq rfl rfl) ?_
                                                          refine st_nil ?_
                                                          refine nx_then ?_
                                                          refine cd_cond rfl (fun Q59 => ?_) (fun Q59 => ?_)
                                                          · (try first | replace Q59 := bn_t Q59 | replace Q59 := bn_f Q59)
                                                            (try first | replace Q59 := bx_t Q59 | replace Q59 := bx_f Q59 | replace Q59 := be_t Q59 | replace Q59 := be_f Q59 | replace Q59 := of_decide_eq_true Q59 | replace Q59 := of_decide_eq_false Q59)
                                                            first
                                                             | (exfalso; first | omega | (simp at *; done) | contradiction | (cases Q59; done))
                                                             | skip
                                                               refine cd_seq ?_
                                                               refine cd_region ?_
                                                               refine st_val (ro_move (v := .slice _ _ _) rfl) ?_
                                                               have hB119 := (((((((((hB.next E4).only O4 (by rw [hb4]; exact hB.size)).next E32).next E38).next E45).next E53).next D30).next E82).next D56)
                                                               have hl119 := (P4.from_ (((From.rfl_.next D30).next E82).next D56)).lt
                                                               refine st_call IntsBackLaw_k19 (copyBytes_any A45 c45 bs _ ((RowOf.own (ho45.kept_from (((From.rfl_.next D30).next E82).next D56))).2) (by omega)) ?_
                                                               rintro v119 w60 ⟨A119, c119, rfl, ho119, E119⟩
                                                               refine st_val (ro_assign (v := .slice _ _ _) rfl) ?_
                                                               refine st_nil ?_
                                                               refine nx_then ?_
                                                               refine cd_seq ?_
                                                               refine cd_region ?_
                                                               replace P4 := P4.from_ ((((From.rfl_.next D30).next E82).next D56).next E119)
                                                               obtain ⟨gc, rfl⟩ := own_some ho119 (by omega)
                                                               refine st_val (ro_move (v := .slice _ _ _) rfl) ?_
                                                               refine st_val (ro_move (v := .slice _ _ _) rfl) ?_
                                                               refine st_val (ro_len IntsBackLaw_l24 rfl) ?_
                                                               refine st_val (ro_subN (b := 1) rfl rfl (by omega)) ?_
                                                               refine st_val (ro_move (v := .slice _ _ _) rfl) ?_
                                                               refine st_val (ro_move (v := .slice _ _ _) rfl) ?_
                                                               refine st_val (ro_len IntsBackLaw_l24 rfl) ?_
                                                               refine st_val (ro_subN (b := 1) rfl rfl (by omega)) ?_
                                                               refine st_val (ro_indexAddr0 IntsBackLaw_e24 rfl rfl (by omega)) ?_
                                                               refine st_val (ro_load IntsBackLaw_g5 rfl (by exact own_cell ho119 (bs.length - 1) (by omega))) ?_
                                                               refine st_val (ro_orN8 (b := 128) rfl rfl (by exact ⟨hp45.1 _ (List.getElem_mem _), by decide⟩)) ?_
                                                               refine st_val (ro_indexAddr0 IntsBackLaw_e24 rfl rfl (by omega)) ?_
                                                               refine st_putOwn (v := .int _ _) IntsBackLaw_z5 rfl rfl rfl (ho119) (by omega) ?_
                                                               intro w61 O20 P20
                                                               have hP20 : RowOf bV w61 (some ⟨gc, 0, none⟩) (bs.set (bs.length - 1) (bs[bs.length - 1] ||| 128)) := (RowOf.own (by rw [List.map_set]; exact P20)).2
                                                               replace P4 := P4.only O20 (by have h9 : _ ≤ gc := (own_lt ho119 rfl).1; omega)
                                                               refine st_nil ?_
                                                               refine nx_then ?_
                                                               refine cd_seq ?_
                                                               refine cd_region ?_
                                                               refine st_val (ro_fieldAddr IntsBackLaw_f26_0 rfl) ?_
                                                               refine st_val (ro_load IntsBackLaw_g3 rfl (by first | (first | exact (P4.from_ From.rfl_).rd 0 rfl | exact (P4.from_ From.rfl_).rd 1 rfl | exact (P4.from_ From.rfl_).rd 2 rfl | exact (P4.from_ From.rfl_).rd 3 rfl))) ?_
                                                               refine st_val (ro_fieldAddr IntsBackLaw_f26_1 rfl) ?_
                                                               refine st_val (ro_load IntsBackLaw_g23 rfl (by first | (first | exact (P4.from_ From.rfl_).rd 0 rfl | exact (P4.from_ From.rfl_).rd 1 rfl | exact (P4.from_ From.rfl_).rd 2 rfl | exact (P4.from_ From.rfl_).rd 3 rfl))) ?_
                                                               refine st_val (ro_len IntsBackLaw_l23 rfl) ?_
                                                               refine st_val (ro_move (v := .slice _ _ _) rfl) ?_
                                                               refine st_call IntsBackLaw_k20 (parse_bad W1 L.length _ c119 bs.length (bs.set (bs.length - 1) (bs[bs.length - 1] ||| 128)) _ (by rw [List.length_set]) hP20 (by rw [List.length_set]; omega) (fun x hx => (List.mem_or_eq_of_mem_set hx).elim (fun h => hp45.1 x h) (fun h => h ▸ or_lt (hp45.1 _ (List.getElem_mem _)))) (bad_top hl45 (by omega) (by omega))) ?_
                                                               rintro v139 w62 ⟨rfl, E139⟩
                                                               refine st_val (ro_move (v := .tuple _) rfl) ?_
                                                               refine st_val (ro_extract rfl rfl) ?_
                                                               refine st_val (ro_extract rfl rfl) ?_
                                                               refine st_val (ro_assign (v := .pointer _) rfl) ?_
                                                               refine st_val (ro_assign (v := .int _ _) rfl) ?_
                                                               refine st_nil ?_
                                                               refine nx_then ?_
                                                               refine cd_seq ?_
                                                               refine cd_region ?_
                                                               refine st_val (ro_move (v := .int _ _) rfl) ?_
                                                               refine st_call IntsBackLaw_k12 (num_any _ _) ?_
                                                               rintro v143 w63 ⟨rfl, rfl⟩
                                                               refine st_val (ro_neq rfl rfl) ?_
                                                               refine st_nil ?_
                                                               refine nx_then ?_
                                                               refine cd_cond rfl (fun Q64 => ?_) (fun Q64 => ?_)
                                                               · (try first | replace Q64 := bn_t Q64 | replace Q64 := bn_f Q64)
                                                                 (try first | replace Q64 := bx_t Q64 | replace Q64 := bx_f Q64 | replace Q64 := be_t Q64 | replace Q64 := be_f Q64 | replace Q64 := of_decide_eq_true Q64 | replace Q64 := of_decide_eq_false Q64)
                                                                 first
                                                                  | (exfalso; first | omega | (simp at *; done) | contradiction | (cases Q64; done))
                                                                  | skip
                                                                    refine cd_seq ?_
                                                                    refine cd_region ?_
                                                                    refine st_val (ro_assign (v := .bool _) rfl) ?_
                                                                    refine st_nil ?_
                                                                    refine nx_then ?_
                                                                    refine cd_ret ?_
                                                                    refine rt_block ?_
                                                                    refine rt_then ?_
                                                                    refine rt_then ?_
                                                                    refine rt_block ?_
                                                                    refine rt_then ?_
                                                                    refine res1 (v := .bool _) rfl rfl ?_
                                                                    exact ⟨rfl, ((((((((((((hB.next E4).only O4 (by rw [hb4]; exact hB.size)).next E32).next E38).next E45).next E53).next D30).next E82).next D56).next E119).only O20 (Nat.le_trans hB119.size (own_lt ho119 rfl).1)).next E139)⟩
                                                               · (try first | replace Q64 := bn_t Q64 | replace Q64 := bn_f Q64)
                                                                 (try first | replace Q64 := bx_t Q64 | replace Q64 := bx_f Q64 | replace Q64 := be_t Q64 | replace Q64 := be_f Q64 | replace Q64 := of_decide_eq_true Q64 | replace Q64 := of_decide_eq_false Q64)
                                                                 first
                                                                  | (exfalso; first | omega | (simp at *; done) | contradiction | (cases Q64; done))
                                                                  | skip
                                                                    refine cd_skip ?_
                                                                    refine nx_block ?_
                                                                    refine nx_then ?_
                                                                    refine cd_region ?_
                                                                    refine st_val (ro_move (v := .int _ _) rfl) ?_
                                                                    refine st_val (ro_addN (b := 1) rfl rfl (by omega)) ?_
                                                                    refine st_val (ro_assign (v := .int _ _) rfl) ?_
                                                                    refine st_nil ?_
                                                                    refine nx_cut (k + 1) ⟨(by first | rfl | (refine int_eq ?_; omega)), trivial⟩ (by (iterate 289 refine agr_cons rfl ?_); exact agr_rfl) ⟨?_, ?_⟩
                                                                    · exact ⟨by omega, ((((((((((((hB.next E4).only O4 (by rw [hb4]; exact hB.size)).next E32).next E38).next E45).next E53).next D30).next E82).next D56).next E119).only O20 (Nat.le_trans hB119.size (own_lt ho119 rfl).1)).next E139)⟩
                                                                    · omega
                                                          · (try first | replace Q59 := bn_t Q59 | replace Q59 := bn_f Q59)
                                                            (try first | replace Q59 := bx_t Q59 | replace Q59 := bx_f Q59 | replace Q59 := be_t Q59 | replace Q59 := be_f Q59 | replace Q59 := of_decide_eq_true Q59 | replace Q59 := of_decide_eq_false Q59)
                                                            first
                                                             | (exfalso; first | omega | (simp at *; done) | contradiction | (cases Q59; done))
                                                             | skip
                                                               refine cd_skip ?_
                                                               refine nx_block ?_
                                                               refine nx_then ?_
                                                               refine cd_region ?_
                                                               refine st_val (ro_move (v := .int _ _) rfl) ?_
                                                               refine st_val (ro_addN (b := 1) rfl rfl (by omega)) ?_
                                                               refine st_val (ro_assign (v := .int _ _) rfl) ?_
                                                               refine st_nil ?_
                                                               refine nx_cut (k + 1) ⟨(by first | rfl | (refine int_eq ?_; omega)), trivial⟩ (by (iterate 259 refine agr_cons rfl ?_); exact agr_rfl) ⟨?_, ?_⟩
                                                               · exact ⟨by omega, (((((((((hB.next E4).only O4 (by rw [hb4]; exact hB.size)).next E32).next E38).next E45).next E53).next D30).next E82).next D56)⟩
                                                               · omega
                                               · (try first | replace Q38 := bn_t Q38 | replace Q38 := bn_f Q38)
                                                 (try first | replace Q38 := bx_t Q38 | replace Q38 := bx_f Q38 | replace Q38 := be_t Q38 | replace Q38 := be_f Q38 | replace Q38 := of_decide_eq_true Q38 | replace Q38 := of_decide_eq_false Q38)
                                                 first
                                                  | (exfalso; first | omega | (simp at *; done) | contradiction | (cases Q38; done))
                                                  | skip
                                                    refine cd_skip ?_
                                                    refine nx_block ?_
                                                    refine nx_then ?_
                                                    refine cd_region ?_
                                                    refine st_val (ro_move (v := .int _ _) rfl) ?_
                                                    refine st_val (ro_addN (b := 1) rfl rfl (by omega)) ?_
                                                    refine st_val (ro_assign (v := .int _ _) rfl) ?_
                                                    refine st_nil ?_
                                                    refine nx_cut (k + 1) ⟨(by first | rfl | (refine int_eq ?_; omega)), trivial⟩ (by (iterate 232 refine agr_cons rfl ?_); exact agr_rfl) ⟨?_, ?_⟩
                                                    · exact ⟨by omega, ((((((((hB.next E4).only O4 (by rw [hb4]; exact hB.size)).next E32).next E38).next E45).next E53).next D30).next E82)⟩
                                                    · omega
                 · refine st_val (ro_move (v := .tuple _) rfl) ?_
                   refine st_val (ro_extract rfl rfl) ?_
                   refine st_val (ro_extract rfl rfl) ?_
                   refine st_val (ro_assign (v := .pointer _) rfl) ?_
                   refine st_val (ro_assign (v := .int _ _) rfl) ?_
                   refine st_nil ?_
                   refine nx_then ?_
                   refine cd_seq ?_
                   refine cd_seq ?_
                   refine cd_region ?_
                   refine st_val (ro_move (v := .int _ _) rfl) ?_
                   refine st_call IntsBackLaw_k12 (num_any _ _) ?_
                   rintro v42 w65 ⟨rfl, rfl⟩
                   refine st_val (ro_neq rfl rfl) ?_
                   refine st_nil ?_
                   refine nx_then ?_
                   refine cd_cond rfl (fun Q66 => ?_) (fun Q66 => ?_)
                   · (try first | replace Q66 := bn_t Q66 | replace Q66 := bn_f Q66)
                     (try first | replace Q66 := bx_t Q66 | replace Q66 := bx_f Q66 | replace Q66 := be_t Q66 | replace Q66 := be_f Q66 | replace Q66 := of_decide_eq_true Q66 | replace Q66 := of_decide_eq_false Q66)
                     first
                      | (exfalso; first | omega | (simp at *; done) | contradiction | (cases Q66; done))
                      | skip
                        refine cd_exit ?_
                        refine ex_then ?_
                        refine ex_block ?_
                        refine nx_then ?_
                        refine cd_region ?_
                        refine st_val (ro_move (v := .int _ _) rfl) ?_
                        refine st_val (ro_addN (b := 1) rfl rfl (by omega)) ?_
                        refine st_val (ro_assign (v := .int _ _) rfl) ?_
                        refine st_nil ?_
                        refine nx_cut (k + 1) ⟨(by first | rfl | (refine int_eq ?_; omega)), trivial⟩ (by (iterate 175 refine agr_cons rfl ?_); exact agr_rfl) ⟨?_, ?_⟩
                        · exact ⟨by omega, ((((hB.next E4).only O4 (by rw [hb4]; exact hB.size)).next E32).next E38)⟩
                        · omega
                   · (try first | replace Q66 := bn_t Q66 | replace Q66 := bn_f Q66)
                     (try first | replace Q66 := bx_t Q66 | replace Q66 := bx_f Q66 | replace Q66 := be_t Q66 | replace Q66 := be_f Q66 | replace Q66 := of_decide_eq_true Q66 | replace Q66 := of_decide_eq_false Q66)
                     first
                      | (exfalso; first | omega | (simp at *; done) | contradiction | (cases Q66; done))
                      | skip
                        refine cd_skip ?_
                        refine nx_then ?_
                        refine cd_seq ?_
                        refine cd_region ?_
                        refine st_val (ro_move (v := .pointer _) rfl) ?_
                        have hL300 : L.length ≤ 300 := by omega
                        refine st_call IntsBackLaw_k14 (bytes_rt _ g W1 L _ hI) ?_
                        rintro v45 w67 ⟨A45, c45, bs, rfl, ho45, hl45, hp45, E45⟩
                        replace P4 := P4.from_ (((From.rfl_.next E32).next E38).next E45)
                        have hgood : GoodP (W1 : Int) (L.length : Int) bs := ⟨by omega, by omega, by omega, by omega, by simpa using hl45, fun t ht => by rw [hp45.2, if_neg (by simp only [Int.toNat_natCast] at ht; omega)]⟩
                        have hbl : bs.length ≤ 1048576 := by
                          have := (wordCount_small hW (show L.length ≤ 131072 by omega)).1
                          rw [hl45]; unfold byteCnt; omega
                        refine st_val (ro_assign (v := .slice _ _ _) rfl) ?_
                        refine st_nil ?_
                        refine nx_then ?_
                        refine cd_seq ?_
                        refine cd_region ?_
                        refine st_val (ro_fieldAddr IntsBackLaw_f26_0 rfl) ?_
                        refine st_val (ro_load IntsBackLaw_g3 rfl (by first | (first | exact (P4.from_ From.rfl_).rd 0 rfl | exact (P4.from_ From.rfl_).rd 1 rfl | exact (P4.from_ From.rfl_).rd 2 rfl | exact (P4.from_ From.rfl_).rd 3 rfl))) ?_
                        refine st_val (ro_fieldAddr IntsBackLaw_f26_1 rfl) ?_
                        refine st_val (ro_load IntsBackLaw_g23 rfl (by first | (first | exact (P4.from_ From.rfl_).rd 0 rfl | exact (P4.from_ From.rfl_).rd 1 rfl | exact (P4.from_ From.rfl_).rd 2 rfl | exact (P4.from_ From.rfl_).rd 3 rfl))) ?_
                        refine st_val (ro_len IntsBackLaw_l23 rfl) ?_
                        refine st_val (ro_move (v := .slice _ _ _) rfl) ?_
                        refine st_call IntsBackLaw_k20 (parse_any W1 L.length A45 c45 bs _ (RowOf.own ho45).2 (by omega) hp45.1) ?_
                        rintro v53 w68 ⟨hn53, E53⟩
                        replace P4 := P4.from_ (From.rfl_.next E53)
                        replace ho45 := ho45.kept_from (From.rfl_.next E53)
                        rcases hn53 with ⟨rfl, hbad⟩ | ⟨g53, l53, rfl, _, hll53, hlt53, hbits53, hI53⟩
                        · exact absurd hgood hbad
                        · have hl53 : l53 = L := nums_ext (by simpa using hll53) (by simpa using hlt53) hlt (fun t ht => by
                            have hbb := hp45.2 t
                            have hzz := hbits53 t (by simpa [hll53] using ht)
                            simp only [Int.toNat_natCast] at hzz
                            rw [hzz, hbb, if_pos (by simpa [hll53] using ht)])
                          refine st_val (ro_move (v := .tuple _) rfl) ?_
                          refine st_val (ro_extract rfl rfl) ?_
                          refine st_val (ro_extract rfl rfl) ?_
                          refine st_val (ro_assign (v := .pointer _) rfl) ?_
                          refine st_val (ro_assign (v := .int _ _) rfl) ?_
                          refine st_nil ?_
                          refine nx_then ?_
                          refine cd_seq ?_
                          apply cd_mu 15 8 [63, 64] [(57, eqp _), (58, eqp _), (59, eqp _), (60, eqp _), (61, eqp _), (62, eqp _), (63, fun v w' => ∃ A2 c2, v = .slice A2 bs.length c2 ∧ w'.ownsRow (w68).heap.size 5 1 (.slice A2 bs.length c2) bs.length (bs.map bV)), (64, fun v w' => ∃ g, v = .slice (some ⟨g, 0, none⟩) 1 1 ∧ Blk w' g 5 #[bV 0]), (65, fun v w' => ∃ A2 c2, v = .slice A2 (bs.length + 1) c2 ∧ w'.ownsRow (w68).heap.size 5 1 (.slice A2 (bs.length + 1) c2) (bs.length + 1) ((bs ++ [0]).map bV)), (66, eqp _), (56, eqp _), (67, eqp _), (68, eqp _), (10, eqp _), (11, eqp _)] (fun w' => From w68 w') (fun w' => From w68 w') (by repeat first | exact pq_body | refine pq_then ?_ | refine pq_block ?_) (by kernel_rfl) (by kernel_rfl) (by kernel_rfl) ⟨eqp_mono _, eqp_mono _, eqp_mono _, eqp_mono _, eqp_mono _, eqp_mono _, (fun _ _ _ hF ⟨A2, c2, h1, h2⟩ => ⟨A2, c2, h1, h2.kept_from hF⟩), (fun _ _ _ hF ⟨g, h1, h2⟩ => ⟨g, h1, h2.from_ hF⟩), (fun _ _ _ hF ⟨A2, c2, h1, h2⟩ => ⟨A2, c2, h1, h2.kept_from hF⟩), eqp_mono _, eqp_mono _, eqp_mono _, eqp_mono _, eqp_mono _, eqp_mono _, trivial⟩ (From.rfl_.d1) (From.rfl_.d1) (fun _ _ hF h => h.next hF) (fun _ _ hF h => h.next hF)
                          case hop =>
                           refine ⟨?_, ?_⟩
                           · rintro - w70 D70
                             show OpOK _ _ _ _ _ _ _
                             exact ok_pure (ro_fieldAddr IntsBackLaw_f26_0 rfl) rfl
                           refine ⟨?_, ?_⟩
                           · rintro - w71 D71
                             rintro _ rfl
                             show OpOK _ _ _ _ _ _ _
                             exact ok_pure (ro_load IntsBackLaw_g3 rfl (by first | (first | exact (P4.from_ (From.rfl_.next D71)).rd 0 rfl | exact (P4.from_ (From.rfl_.next D71)).rd 1 rfl | exact (P4.from_ (From.rfl_.next D71)).rd 2 rfl | exact (P4.from_ (From.rfl_.next D71)).rd 3 rfl))) rfl
                           refine ⟨?_, ?_⟩
                           · rintro - w72 D72
                             show OpOK _ _ _ _ _ _ _
                             exact ok_pure (ro_fieldAddr IntsBackLaw_f26_1 rfl) rfl
                           refine ⟨?_, ?_⟩
                           · rintro - w73 D73
                             rintro _ rfl
                             show OpOK _ _ _ _ _ _ _
                             exact ok_pure (ro_load IntsBackLaw_g23 rfl (by first | (first | exact (P4.from_ (From.rfl_.next D73)).rd 0 rfl | exact (P4.from_ (From.rfl_.next D73)).rd 1 rfl | exact (P4.from_ (From.rfl_.next D73)).rd 2 rfl | exact (P4.from_ (From.rfl_.next D73)).rd 3 rfl))) rfl
                           refine ⟨?_, ?_⟩
                           · rintro - w74 D74
                             rintro _ rfl
                             show OpOK _ _ _ _ _ _ _
                             exact ok_pure (ro_len IntsBackLaw_l23 rfl) rfl
                           refine ⟨?_, ?_⟩
                           · rintro - w75 D75
                             show OpOK _ _ _ _ _ _ _
                             exact ok_pure (ro_move (v := .slice _ _ _) rfl) rfl
                           refine ⟨?_, ?_⟩
                           · rintro - w76 D76
                             rintro _ rfl
                             show OpOK _ _ _ _ _ _ _
                             refine ok_call IntsBackLaw_k19 ((copyBytes_any A45 c45 bs _ ((RowOf.own (ho45.kept_from (From.rfl_.next D76))).2) (by omega)).mono ?_)
                             rintro v w2 ⟨A2, c2, rfl, ho2, hE2⟩
                             exact ⟨hE2, A2, c2, rfl, ownsRow_le ho2 D76.size⟩
                           refine ⟨?_, ?_⟩
                           · rintro - w77 D77
                             show OpOK _ _ _ _ _ _ _
                             exact ok_val (ro_lit1 IntsBackLaw_q24 rfl rfl rfl) (From.rfl_.new _) ⟨_, rfl, Blk.new _ _ _⟩
                           refine ⟨?_, ?_⟩
                           · intro h; cases h
                           refine ⟨?_, ?_⟩
                           · rintro - w79 D79
                             rintro _ rfl _ rfl v79_65 ⟨A79, c79, rfl, ho79⟩
                             show OpOK _ _ _ _ _ _ _
                             refine ok_call IntsBackLaw_k20 ((parse_bad W1 L.length A79 c79 (bs.length + 1) (bs ++ [0]) _ (by simp) (RowOf.own ho79).2 (by simp; omega) (fun x hx => by
                               rcases List.mem_append.1 hx with h | h
                               · exact hp45.1 x h
                               · simp only [List.mem_singleton] at h; omega) (bad_len (by rw [List.length_append, List.length_singleton]; omega))).mono ?_)
                             rintro v w2 ⟨rfl, hE2⟩
                             exact ⟨hE2, rfl⟩
                           refine ⟨?_, ?_⟩
                           · rintro - w80 D80
                             rintro _ rfl
                             show OpOK _ _ _ _ _ _ _
                             exact ok_pure (ro_move (v := .tuple _) rfl) rfl
                           refine ⟨?_, ?_⟩
                           · rintro - w81 D81
                             rintro _ rfl
                             show OpOK _ _ _ _ _ _ _
                             exact ok_pure (ro_extract rfl rfl) rfl
                           refine ⟨?_, ?_⟩
                           · rintro - w82 D82
                             rintro _ rfl
                             show OpOK _ _ _ _ _ _ _
                             exact ok_pure (ro_extract rfl rfl) rfl
                           refine ⟨?_, ?_⟩
                           · rintro - w83 D83
                             rintro _ rfl
                             show OpOK _ _ _ _ _ _ _
                             exact ok_pure (ro_assign (v := .pointer _) rfl) rfl
                           refine ⟨?_, ?_⟩
                           · rintro - w84 D84
                             rintro _ rfl
                             show OpOK _ _ _ _ _ _ _
                             exact ok_pure (ro_assign (v := .int _ _) rfl) rfl
                           exact trivial
                          case hmu =>
                           rintro w85 D85
                           rintro v85_63 ⟨A85, c85, rfl, ho85⟩ v85_64 ⟨g85, rfl, hg85⟩
                           show MuOK _ _ _ _ _ _ _
                           refine mu_append IntsBackLaw_q24 rfl (by decide) rfl ho85 D85.size rfl rfl ⟨_, _, rfl, hg85.whole⟩ (by simp [Value.oneCell']) (by omega) (by omega) ?_
                           intro A3 c3 w3 ho3 hg3
                           have hF3 : From w68 w3 := D85.grew hg3 (fun k hk => (own_lt ho85 hk).1)
                           exact ⟨hF3, ⟨A3, c3, rfl, by rw [List.map_append]; exact ho3⟩, fun t u ht h => muR_look (by repeat first | exact trivial | refine ⟨.inl rfl, ?_⟩ | refine ⟨.inr (fun _ h => h), ?_⟩) t u ht h⟩
                          case hend =>
                           rintro w86 D86
                           rintro _ rfl _ rfl _ rfl _ rfl _ rfl _ rfl v63 _ v64 _ v65 ⟨A86, c86, rfl, ho86⟩ _ rfl _ rfl _ rfl _ rfl _ rfl _ rfl
                           show St _ _ _ _ _ _ _
                           refine st_nil ?_
                           refine nx_then ?_
                           refine cd_seq ?_
                           refine cd_seq ?_
                           refine cd_region ?_
                           refine st_val (ro_move (v := .int _ _) rfl) ?_
                           refine st_call IntsBackLaw_k12 (num_any _ _) ?_
                           rintro v70 w87 ⟨rfl, rfl⟩
                           refine st_val (ro_neq rfl rfl) ?_
                           refine st_val (ro_move (v := .bool _) rfl) ?_
                           refine st_split (t := 72) rfl (fun Q88 => ?_) (fun Q88 => ?_)
                           · (try first | replace Q88 := bn_t Q88 | replace Q88 := bn_f Q88)
                             (try first | replace Q88 := bx_t Q88 | replace Q88 := bx_f Q88 | replace Q88 := be_t Q88 | replace Q88 := be_f Q88 | replace Q88 := of_decide_eq_true Q88 | replace Q88 := of_decide_eq_false Q88)
                             first
                              | (exfalso; first | omega | (simp at *; done) | contradiction | (cases Q88; done))
                              | skip
                                refine st_gno rfl rfl ?_
                                refine st_gno rfl rfl ?_
                                refine st_val (ro_pickT (v := .bool _) rfl rfl) ?_
                                refine st_val (ro_move (v := .bool _) rfl) ?_
                                refine st_gno rfl rfl ?_
                                refine st_gno rfl rfl ?_
                                refine st_gno rfl rfl ?_
                                refine st_gno rfl rfl ?_
                                refine st_gno rfl rfl ?_
                                refine st_gno rfl rfl ?_
                                refine st_gno rfl rfl ?_
                                refine st_val (ro_pickT (v := .bool _) rfl rfl) ?_
                                refine st_val (ro_move (v := .bool _) rfl) ?_
                                refine st_gno rfl rfl ?_
                                refine st_gno rfl rfl ?_
                                refine st_gno rfl rfl ?_
                                refine st_val (ro_pickT (v := .bool _) rfl rfl) ?_
                                refine st_nil ?_
                                refine nx_then ?_
                                refine cd_condT rfl ?_
                                refine cd_seq ?_
                                refine cd_region ?_
                                refine st_val (ro_assign (v := .bool _) rfl) ?_
                                refine st_nil ?_
                                refine nx_then ?_
                                refine cd_ret ?_
                                refine rt_then ?_
                                refine rt_block ?_
                                refine rt_then ?_
                                refine rt_then ?_
                                refine rt_block ?_
                                refine rt_then ?_
                                refine res1 (v := .bool _) rfl rfl ?_
                                exact ⟨rfl, (((((((hB.next E4).only O4 (by rw [hb4]; exact hB.size)).next E32).next E38).next E45).next E53).next D86)⟩
                           · (try first | replace Q88 := bn_t Q88 | replace Q88 := bn_f Q88)
                             (try first | replace Q88 := bx_t Q88 | replace Q88 := bx_f Q88 | replace Q88 := be_t Q88 | replace Q88 := be_f Q88 | replace Q88 := of_decide_eq_true Q88 | replace Q88 := of_decide_eq_false Q88)
                             first
                              | (exfalso; first | omega | (simp at *; done) | contradiction | (cases Q88; done))
                              | skip
                                refine st_unguard rfl ?_
                                refine st_val (ro_move (v := .pointer _) rfl) ?_
                                refine st_unguard rfl ?_
                                refine st_val (ro_eqlNil IntsBackLaw_p29 rfl rfl) ?_
                                refine st_val (ro_pickF (v := .bool _) rfl rfl) ?_
                                refine st_val (ro_move (v := .bool _) rfl) ?_
                                refine st_split (t := 76) rfl (fun Q89 => ?_) (fun Q89 => ?_)
                                · (try first | replace Q89 := bn_t Q89 | replace Q89 := bn_f Q89)
                                  (try first | replace Q89 := bx_t Q89 | replace Q89 := bx_f Q89 | replace Q89 := be_t Q89 | replace Q89 := be_f Q89 | replace Q89 := of_decide_eq_true Q89 | replace Q89 := of_decide_eq_false Q89)
                                  first
                                   | (exfalso; first | omega | (simp at *; done) | contradiction | (cases Q89; done))
                                   | skip
                                     refine st_gno rfl rfl ?_
                                     refine st_gno rfl rfl ?_
                                     refine st_gno rfl rfl ?_
                                     refine st_gno rfl rfl ?_
                                     refine st_gno rfl rfl ?_
                                     refine st_gno rfl rfl ?_
                                     refine st_gno rfl rfl ?_
                                     refine st_val (ro_pickT (v := .bool _) rfl rfl) ?_
                                     refine st_val (ro_move (v := .bool _) rfl) ?_
                                     refine st_gno rfl rfl ?_
                                     refine st_gno rfl rfl ?_
                                     refine st_gno rfl rfl ?_
                                     refine st_val (ro_pickT (v := .bool _) rfl rfl) ?_
                                     refine st_nil ?_
                                     refine nx_then ?_
                                     refine cd_condT rfl ?_
                                     refine cd_seq ?_
                                     refine cd_region ?_
                                     refine st_val (ro_assign (v := .bool _) rfl) ?_
                                     refine st_nil ?_
                                     refine nx_then ?_
                                     refine cd_ret ?_
                                     refine rt_then ?_
                                     refine rt_block ?_
                                     refine rt_then ?_
                                     refine rt_then ?_
                                     refine rt_block ?_
                                     refine rt_then ?_
                                     refine res1 (v := .bool _) rfl rfl ?_
                                     exact ⟨rfl, (((((((hB.next E4).only O4 (by rw [hb4]; exact hB.size)).next E32).next E38).next E45).next E53).next D86)⟩
                                · (try first | replace Q89 := bn_t Q89 | replace Q89 := bn_f Q89)
                                  (try first | replace Q89 := bx_t Q89 | replace Q89 := bx_f Q89 | replace Q89 := be_t Q89 | replace Q89 := be_f Q89 | replace Q89 := of_decide_eq_true Q89 | replace Q89 := of_decide_eq_false Q89)
                                  first
                                   | (exfalso; first | omega | (simp at *; done) | contradiction | (cases Q89; done))
                                   | skip
                                     refine st_unguard rfl ?_
                                     refine st_val (ro_move (v := .pointer _) rfl) ?_
                                     refine st_unguard rfl ?_
                                     refine st_val (ro_fieldAddr IntsBackLaw_f26_0 rfl) ?_
                                     refine st_unguard rfl ?_
                                     refine st_val (ro_load IntsBackLaw_g3 rfl (by first | (first | exact (P4.from_ (From.rfl_.next D86)).rd 0 rfl | exact (P4.from_ (From.rfl_.next D86)).rd 1 rfl | exact (P4.from_ (From.rfl_.next D86)).rd 2 rfl | exact (P4.from_ (From.rfl_.next D86)).rd 3 rfl))) ?_
                                     refine st_unguard rfl ?_
                                     refine st_val (ro_fieldAddr IntsBackLaw_f26_1 rfl) ?_
                                     refine st_unguard rfl ?_
                                     refine st_val (ro_load IntsBackLaw_g23 rfl (by first | (first | exact (P4.from_ (From.rfl_.next D86)).rd 0 rfl | exact (P4.from_ (From.rfl_.next D86)).rd 1 rfl | exact (P4.from_ (From.rfl_.next D86)).rd 2 rfl | exact (P4.from_ (From.rfl_.next D86)).rd 3 rfl))) ?_
                                     refine st_unguard rfl ?_
                                     refine st_call IntsBackLaw_k13 (same_eq _ g53 W1 W1 A1 ca l53 L _ (hI53.from_ (From.rfl_.next D86)) (hask.rowL.from_ (((((((hB.next E4).only O4 (by rw [hb4]; exact hB.size)).next E32).next E38).next E45).next E53).next D86)) (by omega) rfl hl53) ?_
                                     rintro v82 w90 ⟨rfl, E82⟩
                                     refine st_unguard rfl ?_
                                     refine st_val (ro_not rfl) ?_
                                     refine st_val (ro_pickF (v := .bool _) rfl rfl) ?_
                                     refine st_val (ro_move (v := .bool _) rfl) ?_
                                     refine st_split (t := 85) rfl (fun Q91 => ?_) (fun Q91 => ?_)
                                     · (try first | replace Q91 := bn_t Q91 | replace Q91 := bn_f Q91)
                                       (try first | replace Q91 := bx_t Q91 | replace Q91 := bx_f Q91 | replace Q91 := be_t Q91 | replace Q91 := be_f Q91 | replace Q91 := of_decide_eq_true Q91 | replace Q91 := of_decide_eq_false Q91)
                                       first
                                        | (exfalso; first | omega | (simp at *; done) | contradiction | (cases Q91; done))
                                        | skip
                                          refine st_gno rfl rfl ?_
                                          refine st_gno rfl rfl ?_
                                          refine st_gno rfl rfl ?_
                                          refine st_val (ro_pickT (v := .bool _) rfl rfl) ?_
                                          refine st_nil ?_
                                          refine nx_then ?_
                                          refine cd_condT rfl ?_
                                          refine cd_seq ?_
                                          refine cd_region ?_
                                          refine st_val (ro_assign (v := .bool _) rfl) ?_
                                          refine st_nil ?_
                                          refine nx_then ?_
                                          refine cd_ret ?_
                                          refine rt_then ?_
                                          refine rt_block ?_
                                          refine rt_then ?_
                                          refine rt_then ?_
                                          refine rt_block ?_
                                          refine rt_then ?_
                                          refine res1 (v := .bool _) rfl rfl ?_
                                          exact ⟨rfl, ((((((((hB.next E4).only O4 (by rw [hb4]; exact hB.size)).next E32).next E38).next E45).next E53).next D86).next E82)⟩
                                     · (try first | replace Q91 := bn_t Q91 | replace Q91 := bn_f Q91)
                                       (try first | replace Q91 := bx_t Q91 | replace Q91 := bx_f Q91 | replace Q91 := be_t Q91 | replace Q91 := be_f Q91 | replace Q91 := of_decide_eq_true Q91 | replace Q91 := of_decide_eq_false Q91)
                                       first
                                        | (exfalso; first | omega | (simp at *; done) | contradiction | (cases Q91; done))
                                        | skip
                                          refine st_unguard rfl ?_
                                          refine st_val (ro_move (v := .int _ _) rfl) ?_
                                          refine st_unguard rfl ?_
                                          refine st_call IntsBackLaw_k12 (num_any _ _) ?_
                                          rintro v87 w92 ⟨rfl, rfl⟩
                                          refine st_unguard rfl ?_
                                          refine st_val (ro_neq rfl rfl) ?_
                                          refine st_val (ro_pickF (v := .bool _) rfl rfl) ?_
                                          refine st_nil ?_
                                          refine nx_then ?_
                                          refine cd_cond rfl (fun Q93 => ?_) (fun Q93 => ?_)
                                          · (try first | replace Q93 := bn_t Q93 | replace Q93 := bn_f Q93)
                                            (try first | replace Q93 := bx_t Q93 | replace Q93 := bx_f Q93 | replace Q93 := be_t Q93 | replace Q93 := be_f Q93 | replace Q93 := of_decide_eq_true Q93 | replace Q93 := of_decide_eq_false Q93)
                                            first
                                             | (exfalso; first | omega | (simp at *; done) | contradiction | (cases Q93; done))
                                             | skip
                                               refine cd_seq ?_
                                               refine cd_region ?_
                                               refine st_val (ro_assign (v := .bool _) rfl) ?_
                                               refine st_nil ?_
                                               refine nx_then ?_
                                               refine cd_ret ?_
                                               refine rt_then ?_
                                               refine rt_block ?_
                                               refine rt_then ?_
                                               refine rt_then ?_
                                               refine rt_block ?_
                                               refine rt_then ?_
                                               refine res1 (v := .bool _) rfl rfl ?_
                                               exact ⟨rfl, ((((((((hB.next E4).only O4 (by rw [hb4]; exact hB.size)).next E32).next E38).next E45).next E53).next D86).next E82)⟩
                                          · (try first | replace Q93 := bn_t Q93 | replace Q93 := bn_f Q93)
                                            (try first | replace Q93 := bx_t Q93 | replace Q93 := bx_f Q93 | replace Q93 := be_t Q93 | replace Q93 := be_f Q93 | replace Q93 := of_decide_eq_true Q93 | replace Q93 := of_decide_eq_false Q93)
                                            first
                                             | (exfalso; first | omega | (simp at *; done) | contradiction | (cases Q93; done))
                                             | skip
                                               refine cd_skip ?_
                                               refine nx_then ?_
                                               refine cd_seq ?_
                                               refine cd_region ?_
                                               refine st_val (ro_move (v := .slice _ _ _) rfl) ?_
                                               refine st_val (ro_len IntsBackLaw_l24 rfl) ?_
                                               refine st_val (ro_gtr rfl rfl) ?_
                                               refine st_nil ?_
                                               refine nx_then ?_
                                               refine cd_cond rfl (fun Q94 => ?_) (fun Q94 => ?_)
                                               · (try first | replace Q94 := bn_t Q94 | replace Q94 := bn_f Q94)
                                                 (try first | replace Q94 := bx_t Q94 | replace Q94 := bx_f Q94 | replace Q94 := be_t Q94 | replace Q94 := be_f Q94 | replace Q94 := of_decide_eq_true Q94 | replace Q94 := of_decide_eq_false Q94)
                                                 first
                                                  | (exfalso; first | omega | (simp at *; done) | contradiction | (cases Q94; done))
                                                  | skip
                                                    refine cd_seq ?_
                                                    apply cd_drawn 16 [(94, eqp _), (95, eqp _), (96, eqp _), (97, eqp _), (98, eqp _), (99, eqp _), (100, eqp _), (101, eqp _), (102, eqp _), (103, eqp _), (104, eqp _), (93, eqp _), (105, eqp _), (106, eqp _), (12, eqp _), (13, eqp _)] (by kernel_rfl) (by kernel_rfl) ⟨eqp_mono _, eqp_mono _, eqp_mono _, eqp_mono _, eqp_mono _, eqp_mono _, eqp_mono _, eqp_mono _, eqp_mono _, eqp_mono _, eqp_mono _, eqp_mono _, eqp_mono _, eqp_mono _, eqp_mono _, eqp_mono _, trivial⟩
                                                    case hop =>
                                                     refine ⟨?_, ?_⟩
                                                     · intro w96 D96
                                                       show OpOK _ _ _ _ _ _ _
                                                       exact ok_pure (ro_fieldAddr IntsBackLaw_f26_0 rfl) rfl
                                                     refine ⟨?_, ?_⟩
                                                     · intro w97 D97
                                                       rintro _ rfl
                                                       show OpOK _ _ _ _ _ _ _
                                                       exact ok_pure (ro_load IntsBackLaw_g3 rfl (by first | (first | exact (P4.from_ (((From.rfl_.next D86).next E82).next D97)).rd 0 rfl | exact (P4.from_ (((From.rfl_.next D86).next E82).next D97)).rd 1 rfl | exact (P4.from_ (((From.rfl_.next D86).next E82).next D97)).rd 2 rfl | exact (P4.from_ (((From.rfl_.next D86).next E82).next D97)).rd 3 rfl))) rfl
                                                     refine ⟨?_, ?_⟩
                                                     · intro w98 D98
                                                       show OpOK _ _ _ _ _ _ _
                                                       exact ok_pure (ro_fieldAddr IntsBackLaw_f26_1 rfl) rfl
                                                     refine ⟨?_, ?_⟩
                                                     · intro w99 D99
                                                       rintro _ rfl
                                                       show OpOK _ _ _ _ _ _ _
                                                       exact ok_pure (ro_load IntsBackLaw_g23 rfl (by first | (first | exact (P4.from_ (((From.rfl_.next D86).next E82).next D99)).rd 0 rfl | exact (P4.from_ (((From.rfl_.next D86).next E82).next D99)).rd 1 rfl | exact (P4.from_ (((From.rfl_.next D86).next E82).next D99)).rd 2 rfl | exact (P4.from_ (((From.rfl_.next D86).next E82).next D99)).rd 3 rfl))) rfl
                                                     refine ⟨?_, ?_⟩
                                                     · intro w100 D100
                                                       rintro _ rfl
                                                       show OpOK _ _ _ _ _ _ _
                                                       exact ok_pure (ro_len IntsBackLaw_l23 rfl) rfl
                                                     refine ⟨?_, ?_⟩
                                                     · intro w101 D101
                                                       show OpOK _ _ _ _ _ _ _
                                                       exact ok_pure (ro_move (v := .slice _ _ _) rfl) rfl
                                                     refine ⟨?_, ?_⟩
                                                     · intro w102 D102
                                                       show OpOK _ _ _ _ _ _ _
                                                       exact ok_pure (ro_move (v := .slice _ _ _) rfl) rfl
                                                     refine ⟨?_, ?_⟩
                                                     · intro w103 D103
                                                       rintro _ rfl
                                                       show OpOK _ _ _ _ _ _ _
                                                       exact ok_pure (ro_len IntsBackLaw_l24 rfl) rfl
                                                     refine ⟨?_, ?_⟩
                                                     · intro w104 D104
                                                       rintro _ rfl
                                                       show OpOK _ _ _ _ _ _ _
                                                       exact ok_pure (ro_subN (b := 1) rfl rfl (by omega)) rfl
                                                     refine ⟨?_, ?_⟩
                                                     · intro w105 D105
                                                       rintro _ rfl _ rfl
                                                       show OpOK _ _ _ _ _ _ _
                                                       exact ok_pure (ro_eq (v' := .slice A45 (bs.length - 1) c45) (ro_sliceO (l := 0) (h := bs.length - 1) IntsBackLaw_e24 rfl (.inl ⟨rfl, rfl⟩) (.inr ⟨_, _, _, rfl, rfl, rfl⟩) (by omega) (by have := own_cap ho45; omega)) (by rw [restOf_zero]; rfl)) rfl
                                                     refine ⟨?_, ?_⟩
                                                     · intro w106 D106
                                                       rintro _ rfl _ rfl _ rfl
                                                       show OpOK _ _ _ _ _ _ _
                                                       refine ok_call IntsBackLaw_k20 ((parse_bad W1 L.length A45 c45 (bs.length - 1) (bs.take (bs.length - 1)) _ (by rw [List.length_take]; omega) (row_take (RowOf.own (ho45.kept_from (((From.rfl_.next D86).next E82).next D106))).2 _) (by rw [List.length_take]; omega) (fun x hx => hp45.1 x (List.mem_of_mem_take hx)) (bad_len (by rw [List.length_take]; omega))).mono ?_)
                                                       rintro v _ ⟨rfl, E106'⟩; exact ⟨E106', rfl⟩
                                                     refine ⟨?_, ?_⟩
                                                     · intro w107 D107
                                                       rintro _ rfl
                                                       show OpOK _ _ _ _ _ _ _
                                                       exact ok_pure (ro_move (v := .tuple _) rfl) rfl
                                                     refine ⟨?_, ?_⟩
                                                     · intro w108 D108
                                                       rintro _ rfl
                                                       show OpOK _ _ _ _ _ _ _
                                                       exact ok_pure (ro_extract rfl rfl) rfl
                                                     refine ⟨?_, ?_⟩
                                                     · intro w109 D109
                                                       rintro _ rfl
                                                       show OpOK _ _ _ _ _ _ _
                                                       exact ok_pure (ro_extract rfl rfl) rfl
                                                     refine ⟨?_, ?_⟩
                                                     · intro w110 D110
                                                       rintro _ rfl
                                                       show OpOK _ _ _ _ _ _ _
                                                       exact ok_pure (ro_assign (v := .pointer _) rfl) rfl
                                                     refine ⟨?_, ?_⟩
                                                     · intro w111 D111
                                                       rintro _ rfl
                                                       show OpOK _ _ _ _ _ _ _
                                                       exact ok_pure (ro_assign (v := .int _ _) rfl) rfl
                                                     exact trivial
                                                    case hend =>
                                                     intro w112 D112
                                                     rintro _ rfl _ rfl _ rfl _ rfl _ rfl _ rfl _ rfl _ rfl _ rfl _ rfl _ rfl _ rfl _ rfl _ rfl _ rfl _ rfl
                                                     show St _ _ _ _ _ _ _
                                                     refine st_nil ?_
                                                     refine nx_then ?_
                                                     refine cd_seq ?_
                                                     refine cd_seq ?_
                                                     refine cd_region ?_
                                                     refine st_val (ro_move (v := .int _ _) rfl) ?_
                                                     refine st_call IntsBackLaw_k12 (num_any _ _) ?_
                                                     rintro v108 w113 ⟨rfl, rfl⟩
                                                     refine st_val (ro_neq rfl rfl) ?_
                                                     refine st_nil ?_
                                                     refine nx_then ?_
                                                     refine cd_cond rfl (fun Q114 => ?_) (fun Q114 => ?_)
                                                     · (try first | replace Q114 := bn_t Q114 | replace Q114 := bn_f Q114)
                                                       (try first | replace Q114 := bx_t Q114 | replace Q114 := bx_f Q114 | replace Q114 := be_t Q114 | replace Q114 := be_f Q114 | replace Q114 := of_decide_eq_true Q114 | replace Q114 := of_decide_eq_false Q114)
                                                       first
                                                        | (exfalso; first | omega | (simp at *; done) | contradiction | (cases Q114; done))
                                                        | skip
                                                          refine cd_seq ?_
                                                          refine cd_region ?_
                                                          refine st_val (ro_assign (v := .bool _) rfl) ?_
                                                          refine st_nil ?_
                                                          refine nx_then ?_
                                                          refine cd_ret ?_
                                                          refine rt_then ?_
                                                          refine rt_block ?_
                                                          refine rt_then ?_
                                                          refine rt_then ?_
                                                          refine rt_block ?_
                                                          refine rt_then ?_
                                                          refine res1 (v := .bool _) rfl rfl ?_
                                                          exact ⟨rfl, (((((((((hB.next E4).only O4 (by rw [hb4]; exact hB.size)).next E32).next E38).next E45).next E53).next D86).next E82).next D112)⟩
                                                     · (try first | replace Q114 := bn_t Q114 | replace Q114 := bn_f Q114)
                                                       (try first | replace Q114 := bx_t Q114 | replace Q114 := bx_f Q114 | replace Q114 := be_t Q114 | replace Q114 := be_f Q114 | replace Q114 := of_decide_eq_true Q114 | replace Q114 := of_decide_eq_false Q114)
                                                       first
                                                        | (exfalso; first | omega | (simp at *; done) | contradiction | (cases Q114; done))
                                                        | skip
                                                          refine cd_skip ?_
                                                          refine nx_then ?_
                                                          refine cd_seq ?_
                                                          refine cd_region ?_
                                                          refine st_val (ro_fieldAddr IntsBackLaw_f26_0 rfl) ?_
                                                          refine st_val (ro_load IntsBackLaw_g3 rfl (by first | (first | exact (P4.from_ (((From.rfl_.next D86).next E82).next D112)).rd 0 rfl | exact (P4.from_ (((From.rfl_.next D86).next E82).next D112)).rd 1 rfl | exact (P4.from_ (((From.rfl_.next D86).next E82).next D112)).rd 2 rfl | exact (P4.from_ (((From.rfl_.next D86).next E82).next D112)).rd 3 rfl))) ?_
                                                          refine st_val (ro_fieldAddr IntsBackLaw_f26_1 rfl) ?_
                                                          refine st_val (ro_load IntsBackLaw_g23 rfl (by first | (first | exact (P4.from_ (((From.rfl_.next D86).next E82).next D112)).rd 0 rfl | exact (P4.from_ (((From.rfl_.next D86).next E82).next D112)).rd 1 rfl | exact (P4.from_ (((From.rfl_.next D86).next E82).next D112)).rd 2 rfl | exact (P4.from_ (((From.rfl_.next D86).next E82).next D112)).rd 3 rfl))) ?_
                                                          refine st_val (ro_len IntsBackLaw_l23 rfl) ?_
                                                          refine st_val (ro_mulN rfl rfl (by have := (wordCount_small hW (show L.length ≤ 131072 by omega)).1; omega)) ?_
                                                          refine st_val (ro_remN (b := 8) rfl rfl (by decide)) ?_
                                                          refine st_val (ro_neq rfl rfl) ?_
                                                          refine st_nil ?_
                                                          refine nx_then ?_
                                                          refine cd_cond rfl (fun Q115 => ?_) (fun Q115 => ?_)
                                                          · (try first | replace Q115 := bn_t Q115 | replace Q115 := bn_f Q115)
                                                            (try first | replace Q115 := bx_t Q115 | replace Q115 := bx_f Q115 | replace Q115 := be_t Q115 | replace Q115 := be_f Q115 | replace Q115 := of_decide_eq_true Q115 | replace Q115 := of_decide_eq_false Q115)
                                                            first
                                                             | (exfalso; first | omega | (simp at *; done) | contradiction | (cases Q115; done))
                                                             | skip
                                                               refine cd_seq ?_
                                                               refine cd_region ?_
                                                               refine st_val (ro_move (v := .slice _ _ _) rfl) ?_
                                                               have hB119 := (((((((((hB.next E4).only O4 (by rw [hb4]; exact hB.size)).next E32).next E38).next E45).next E53).next D86).next E82).next D112)
                                                               have hl119 := (P4.from_ (((From.rfl_.next D86).next E82).next D112)).lt
                                                               refine st_call IntsBackLaw_k19 (copyBytes_any A45 c45 bs _ ((RowOf.own (ho45.kept_from (((From.rfl_.next D86).next E82).next D112))).2) (by omega)) ?_
                                                               rintro v119 w116 ⟨A119, c119, rfl, ho119, E119⟩
                                                               refine st_val (ro_assign (v := .slice _ _ _) rfl) ?_
                                                               refine st_nil ?_
                                                               refine nx_then ?_
                                                               refine cd_seq ?_
                                                               refine cd_region ?_
                                                               replace P4 := P4.from_ ((((From.rfl_.next D86).next E82).next D112).next E119)
                                                               obtain ⟨gc, rfl⟩ := own_some ho119 (by omega)
                                                               refine st_val (ro_move (v := .slice _ _ _) rfl) ?_
                                                               refine st_val (ro_move (v := .slice _ _ _) rfl) ?_
                                                               refine st_val (ro_len IntsBackLaw_l24 rfl) ?_
                                                               refine st_val (ro_subN (b := 1) rfl rfl (by omega)) ?_
                                                               refine st_val (ro_move (v := .slice _ _ _) rfl) ?_
                                                               refine st_val (ro_move (v := .slice _ _ _) rfl) ?_
                                                               refine st_val (ro_len IntsBackLaw_l24 rfl) ?_
                                                               refine st_val (ro_subN (b := 1) rfl rfl (by omega)) ?_
                                                               refine st_val (ro_indexAddr0 IntsBackLaw_e24 rfl rfl (by omega)) ?_
                                                               refine st_val (ro_load IntsBackLaw_g5 rfl (by exact own_cell ho119 (bs.length - 1) (by omega))) ?_
                                                               refine st_val (ro_orN8 (b := 128) rfl rfl (by exact ⟨hp45.1 _ (List.getElem_mem _), by decide⟩)) ?_
                                                               refine st_val (ro_indexAddr0 IntsBackLaw_e24 rfl rfl (by omega)) ?_
                                                               refine st_putOwn (v := .int _ _) IntsBackLaw_z5 rfl rfl rfl (ho119) (by omega) ?_
                                                               intro w117 O20 P20
                                                               have hP20 : RowOf bV w117 (some ⟨gc, 0, none⟩) (bs.set (bs.length - 1) (bs[bs.length - 1] ||| 128)) := (RowOf.own (by rw [List.map_set]; exact P20)).2
                                                               replace P4 := P4.only O20 (by have h9 : _ ≤ gc := (own_lt ho119 rfl).1; omega)
                                                               refine st_nil ?_
                                                               refine nx_then ?_
                                                               refine cd_seq ?_
                                                               refine cd_region ?_
                                                               refine st_val (ro_fieldAddr IntsBackLaw_f26_0 rfl) ?_
                                                               refine st_val (ro_load IntsBackLaw_g3 rfl (by first | (first | exact (P4.from_ From.rfl_).rd 0 rfl | exact (P4.from_ From.rfl_).rd 1 rfl | exact (P4.from_ From.rfl_).rd 2 rfl | exact (P4.from_ From.rfl_).rd 3 rfl))) ?_
                                                               refine st_val (ro_fieldAddr IntsBackLaw_f26_1 rfl) ?_
                                                               refine st_val (ro_load IntsBackLaw_g23 rfl (by first | (first | exact (P4.from_ From.rfl_).rd 0 rfl | exact (P4.from_ From.rfl_).rd 1 rfl | exact (P4.from_ From.rfl_).rd 2 rfl | exact (P4.from_ From.rfl_).rd 3 rfl))) ?_
                                                               refine st_val (ro_len IntsBackLaw_l23 rfl) ?_
                                                               refine st_val (ro_move (v := .slice _ _ _) rfl) ?_
                                                               refine st_call IntsBackLaw_k20 (parse_bad W1 L.length _ c119 bs.length (bs.set (bs.length - 1) (bs[bs.length - 1] ||| 128)) _ (by rw [List.length_set]) hP20 (by rw [List.length_set]; omega) (fun x hx => (List.mem_or_eq_of_mem_set hx).elim (fun h => hp45.1 x h) (fun h => h ▸ or_lt (hp45.1 _ (List.getElem_mem _)))) (bad_top hl45 (by omega) (by omega))) ?_
                                                               rintro v139 w118 ⟨rfl, E139⟩
                                                               refine st_val (ro_move (v := .tuple _) rfl) ?_
                                                               refine st_val (ro_extract rfl rfl) ?_
                                                               refine st_val (ro_extract rfl rfl) ?_
                                                               refine st_val (ro_assign (v := .pointer _) rfl) ?_
                                                               refine st_val (ro_assign (v := .int _ _) rfl) ?_
                                                               refine st_nil ?_
                                                               refine nx_then ?_
                                                               refine cd_seq ?_
                                                               refine cd_region ?_
                                                               refine st_val (ro_move (v := .int _ _) rfl) ?_
                                                               refine st_call IntsBackLaw_k12 (num_any _ _) ?_
                                                               rintro v143 w119 ⟨rfl, rfl⟩
                                                               refine st_val (ro_neq rfl rfl) ?_
                                                               refine st_nil ?_
                                                               refine nx_then ?_
                                                               refine cd_cond rfl (fun Q120 => ?_) (fun Q120 => ?_)
                                                               · (try first | replace Q120 := bn_t Q120 | replace Q120 := bn_f Q120)
                                                                 (try first | replace Q120 := bx_t Q120 | replace Q120 := bx_f Q120 | replace Q120 := be_t Q120 | replace Q120 := be_f Q120 | replace Q120 := of_decide_eq_true Q120 | replace Q120 := of_decide_eq_false Q120)
                                                                 first
                                                                  | (exfalso; first | omega | (simp at *; done) | contradiction | (cases Q120; done))
                                                                  | skip
                                                                    refine cd_seq ?_
                                                                    refine cd_region ?_
                                                                    refine st_val (ro_assign (v := .bool _) rfl) ?_
                                                                    refine st_nil ?_
                                                                    refine nx_then ?_
                                                                    refine cd_ret ?_
                                                                    refine rt_block ?_
                                                                    refine rt_then ?_
                                                                    refine rt_then ?_
                                                                    refine rt_block ?_
                                                                    refine rt_then ?_
                                                                    refine res1 (v := .bool _) rfl rfl ?_
                                                                    exact ⟨rfl, ((((((((((((hB.next E4).only O4 (by rw [hb4]; exact hB.size)).next E32).next E38).next E45).next E53).next D86).next E82).next D112).next E119).only O20 (Nat.le_trans hB119.size (own_lt ho119 rfl).1)).next E139)⟩
                                                               · (try first | replace Q120 := bn_t Q120 | replace Q120 := bn_f Q120)
                                                                 (try first | replace Q120 := bx_t Q120 | replace Q120 := bx_f Q120 | replace Q120 := be_t Q120 | replace Q120 := be_f Q120 | replace Q120 := of_decide_eq_true Q120 | replace Q120 := of_decide_eq_false Q120)
                                                                 first
                                                                  | (exfalso; first | omega | (simp at *; done) | contradiction | (cases Q120; done))
                                                                  | skip
                                                                    refine cd_skip ?_
                                                                    refine nx_block ?_
                                                                    refine nx_then ?_
                                                                    refine cd_region ?_
                                                                    refine st_val (ro_move (v := .int _ _) rfl) ?_
                                                                    refine st_val (ro_addN (b := 1) rfl rfl (by omega)) ?_
                                                                    refine st_val (ro_assign (v := .int _ _) rfl) ?_
                                                                    refine st_nil ?_
                                                                    refine nx_cut (k + 1) ⟨(by first | rfl | (refine int_eq ?_; omega)), trivial⟩ (by (iterate 289 refine agr_cons rfl ?_); exact agr_rfl) ⟨?_, ?_⟩
                                                                    · exact ⟨by omega, ((((((((((((hB.next E4).only O4 (by rw [hb4]; exact hB.size)).next E32).next E38).next E45).next E53).next D86).next E82).next D112).next E119).only O20 (Nat.le_trans hB119.size (own_lt ho119 rfl).1)).next E139)⟩
                                                                    · omega
                                                          · (try first | replace Q115 := bn_t Q115 | replace Q115 := bn_f Q115)
                                                            (try first | replace Q115 := bx_t Q115 | replace Q115 := bx_f Q115 | replace Q115 := be_t Q115 | replace Q115 := be_f Q115 | replace Q115 := of_decide_eq_true Q115 | replace Q115 := of_decide_eq_false Q115)
                                                            first
                                                             | (exfalso; first | omega | (simp at *; done) | contradiction | (cases Q115; done))
                                                             | skip
                                                               refine cd_skip ?_
                                                               refine nx_block ?_
                                                               refine nx_then ?_
                                                               refine cd_region ?_
                                                               refine st_val (ro_move (v := .int _ _) rfl) ?_
                                                               refine st_val (ro_addN (b := 1) rfl rfl (by omega)) ?_
                                                               refine st_val (ro_assign (v := .int _ _) rfl) ?_
                                                               refine st_nil ?_
                                                               refine nx_cut (k + 1) ⟨(by first | rfl | (refine int_eq ?_; omega)), trivial⟩ (by (iterate 259 refine agr_cons rfl ?_); exact agr_rfl) ⟨?_, ?_⟩
                                                               · exact ⟨by omega, (((((((((hB.next E4).only O4 (by rw [hb4]; exact hB.size)).next E32).next E38).next E45).next E53).next D86).next E82).next D112)⟩
                                                               · omega
                                               · (try first | replace Q94 := bn_t Q94 | replace Q94 := bn_f Q94)
                                                 (try first | replace Q94 := bx_t Q94 | replace Q94 := bx_f Q94 | replace Q94 := be_t Q94 | replace Q94 := be_f Q94 | replace Q94 := of_decide_eq_true Q94 | replace Q94 := of_decide_eq_false Q94)
                                                 first
                                                  | (exfalso; first | omega | (simp at *; done) | contradiction | (cases Q94; done))
                                                  | skip
                                                    refine cd_skip ?_
                                                    refine nx_block ?_
                                                    refine nx_then ?_
                                                    refine cd_region ?_
                                                    refine st_val (ro_move (v := .int _ _) rfl) ?_
                                                    refine st_val (ro_addN (b := 1) rfl rfl (by omega)) ?_
                                                    refine st_val (ro_assign (v := .int _ _) rfl) ?_
                                                    refine st_nil ?_
                                                    refine nx_cut (k + 1) ⟨(by first | rfl | (refine int_eq ?_; omega)), trivial⟩ (by (iterate 232 refine agr_cons rfl ?_); exact agr_rfl) ⟨?_, ?_⟩
                                                    · exact ⟨by omega, ((((((((hB.next E4).only O4 (by rw [hb4]; exact hB.size)).next E32).next E38).next E45).next E53).next D86).next E82)⟩
                                                    · omega
       · (try first | replace Q3 := bn_t Q3 | replace Q3 := bn_f Q3)
         (try first | replace Q3 := bx_t Q3 | replace Q3 := bx_f Q3 | replace Q3 := be_t Q3 | replace Q3 := be_f Q3 | replace Q3 := of_decide_eq_true Q3 | replace Q3 := of_decide_eq_false Q3)
         first
          | (exfalso; first | omega | (simp at *; done) | contradiction | (cases Q3; done))
          | skip
            refine cd_exit ?_
            refine ex_then ?_
            refine ex_then ?_
            refine ex_block ?_
            refine nx_then ?_
            refine cd_seq ?_
            refine cd_region ?_
            refine st_call IntsBackLaw_k18 (wakes_any _) ?_
            rintro v145 w121 ⟨rfl, E145⟩
            refine st_val (ro_assign (v := .bool _) rfl) ?_
            refine st_nil ?_
            refine nx_then ?_
            refine cd_ret ?_
            refine res1 (v := .bool _) rfl rfl ?_
            exact ⟨rfl, (hB.next E145)⟩
  · (try first | replace Q2 := bn_t Q2 | replace Q2 := bn_f Q2)
    (try first | replace Q2 := bx_t Q2 | replace Q2 := bx_f Q2 | replace Q2 := be_t Q2 | replace Q2 := be_f Q2 | replace Q2 := of_decide_eq_true Q2 | replace Q2 := of_decide_eq_false Q2)
    first
     | (exfalso; first | omega | (simp at *; done) | contradiction | (cases Q2; done))
     | skip
       refine st_gno rfl rfl ?_
       refine st_gno rfl rfl ?_
       refine st_val (ro_pickF (v := .bool _) rfl rfl) ?_
       refine st_nil ?_
       refine nx_then ?_
       refine cd_condF rfl ?_
       refine cd_exit ?_
       refine ex_then ?_
       refine ex_then ?_
       refine ex_block ?_
       refine nx_then ?_
       refine cd_seq ?_
       refine cd_region ?_
       refine st_call IntsBackLaw_k18 (wakes_any _) ?_
       rintro v145 w122 ⟨rfl, E145⟩
       refine st_val (ro_assign (v := .bool _) rfl) ?_
       refine st_nil ?_
       refine nx_then ?_
       refine cd_ret ?_
       refine res1 (v := .bool _) rfl rfl ?_
       exact ⟨rfl, (hB.next E145)⟩
set_option maxRecDepth 100000 in
theorem IntsBack_lifted (os : Os) (started : os.Started) (H : Type) (enc : TypeId × Value → H) :
    ReturnsInHanded {} Try.checked os 5 .any (Rows.intsBackSpec.pre6 enc Try.prog Try.f5 Rows.intsBackRow.domain false) (Rows.intsBackSpec.post enc Try.prog Try.f5 false true false false) := by
  refine returnsInHanded_of_change_sized (C := Try.checked) Try.own started (by kernel_rfl) Try.func5
    (ChangeSpec.witness6 (enc := enc) (C := Try.checked) false ⟨#[], #[.slice none 0 0], []⟩ 8 (by kernel_rfl) (by kernel_rfl) (by kernel_rfl) (by kernel_rfl)) ?_
  intro W base args ds gs before hval hW _ hsz _
  exact law_step 5 Try.f5 22 4 Rows.intsBackSpec Try.params5 (by kernel_rfl) Try.underlying4 rfl (fun _ => rfl) (by kernel_rfl) (of_decide_eq_true (by kernel_rfl)) (walk_sl askT (by kernel_rfl) intsBack_law) W base args ds gs before hval hW hsz

theorem IntsBack_holds : Rows.IntsBackSaid :=
  OpenClaim.holds_of_wide 5 Try.f5 rfl rfl rfl rfl rfl rfl rfl ⟨rfl, rfl, rfl, rfl, rfl⟩ rfl rfl rfl rfl rfl (by kernel_rfl) Try.func5 (by kernel_rfl)
    (of_decide_eq_true (by kernel_rfl)) (by unfold Func.isWrapper; first | (rw [if_pos (by decide +kernel)]; kernel_rfl) | (rw [if_neg (by decide +kernel)]; exact ⟨rfl, rfl⟩))
    (fun os started H enc _ => IntsBack_lifted os started H enc)
#print axioms IntsBack_holds

end Go.Proofs.Ytgnmmifolhoaeaa
