/- The laws of package ints: Parse, the widths. -/
import Derived.Test.YtgnmmifolhoaeaaIntsLaws
namespace Go.Proofs.Ytgnmmifolhoaeaa
open Go.RowKit

theorem IntsLaws2_l22 : (elemQ Try.prog 22).isSome = true := by kernel_rfl
theorem IntsLaws2_e22 : elemQ Try.prog 22 = some (26, 4) := by kernel_rfl
theorem IntsLaws2_g26 : aggQ Try.prog 26 = some true := by kernel_rfl
theorem IntsLaws2_z26 : sizeQ Try.prog 26 = some 4 := by kernel_rfl
theorem IntsLaws2_o26 : zeroQ Try.prog 26 = some (.agg #[.int .i64 0, .slice none 0 0, .int .i64 0, .slice none 0 0]) := by kernel_rfl
theorem IntsLaws2_k7 : callable Try.prog 7 = true := by kernel_rfl
theorem IntsLaws2_f26_2 : fieldQ Try.prog 26 2 = some 2 := by kernel_rfl
theorem IntsLaws2_g3 : aggQ Try.prog 3 = some false := by kernel_rfl
theorem IntsLaws2_f26_3 : fieldQ Try.prog 26 3 = some 3 := by kernel_rfl
theorem IntsLaws2_g24 : aggQ Try.prog 24 = some false := by kernel_rfl
theorem IntsLaws2_k19 : callable Try.prog 19 = true := by kernel_rfl
theorem IntsLaws2_f26_0 : fieldQ Try.prog 26 0 = some 0 := by kernel_rfl
theorem IntsLaws2_k20 : callable Try.prog 20 = true := by kernel_rfl
theorem IntsLaws2_k17 : callable Try.prog 17 = true := by kernel_rfl
theorem IntsLaws2_k21 : callable Try.prog 21 = true := by kernel_rfl
theorem IntsLaws2_k12 : callable Try.prog 12 = true := by kernel_rfl
theorem IntsLaws2_p29 : Try.prog.underlying 29 = some (.pointer (Try.prog.pointee 29)) := by kernel_rfl
theorem IntsLaws2_k13 : callable Try.prog 13 = true := by kernel_rfl
theorem IntsLaws2_k18 : callable Try.prog 18 = true := by kernel_rfl
theorem same_eq (base g W : Nat) (V : Int) (A : Option Addr) (c : Nat) (l m : List Nat) (w : World) (hx : IntsAt base w g W l) (hm : RowOf uV w A m) (hml : m.length * 8 ≤ 140737488351232) (hV : (W : Int) = V) (he : l = m) :
    Rt Try.prog 13 [.pointer (some ⟨g, 0, none⟩), .int .i64 V, .slice A m.length c] w fun v w' => v = .bool true ∧ From w w' :=
  Rt.mono (same_any base g W V A c l m w hx hm hml) fun v w' h => ⟨by rw [h.1, decide_eq_true ⟨hV, he⟩], h.2⟩
theorem top_eq (k : Nat) (h : k ≤ 64) : IntKind.u64.wrap (((1 * 2 ^ k % 2 ^ 64 : Nat) : Int) - 1) = ((2 ^ k - 1 : Nat) : Int) := by
  rcases Nat.eq_or_lt_of_le h with rfl | h
  · decide
  · have h1 : 2 ^ k < 2 ^ 64 := Nat.pow_lt_pow_right (by decide) h
    have h2 : 0 < 2 ^ k := Nat.pow_pos (by decide)
    rw [Nat.one_mul, Nat.mod_eq_of_lt h1, IntKind.wrap_u64]
    generalize 2 ^ k = x at *
    omega
theorem top_succ (k : Nat) (h : k < 64) : IntKind.u64.wrap (((2 ^ k - 1 : Nat) : Int) + 1) = ((2 ^ k : Nat) : Int) := by
  have h1 : 2 ^ k < 2 ^ 64 := Nat.pow_lt_pow_right (by decide) h
  have h2 : 0 < 2 ^ k := Nat.pow_pos (by decide)
  rw [IntKind.wrap_u64]
  generalize 2 ^ k = x at *
  omega
theorem top_lt (k : Nat) (h : k ≤ 64) : ∀ x ∈ [2 ^ k - 1, 0, 2 ^ k - 1], x < 2 ^ 64 := by
  have h1 : 2 ^ k ≤ 2 ^ 64 := Nat.pow_le_pow_right (by decide) h
  have h2 : 0 < 2 ^ k := Nat.pow_pos (by decide)
  intro x hx
  simp only [List.mem_cons, List.not_mem_nil, or_false] at hx
  generalize 2 ^ k = y at *
  omega
theorem may_top (k : Nat) (h : k ≤ 64) : mayI k [2 ^ k - 1, 0, 2 ^ k - 1] = true := by
  have h2 : 0 < 2 ^ k := Nat.pow_pos (by decide)
  have h3 : 2 ^ k - 1 < 2 ^ k := by omega
  unfold mayI
  rw [decide_eq_true (by omega), decide_eq_true (by omega)]
  simp [h2]
  exact h3
theorem may_above (k : Nat) : mayI k [2 ^ k] = false := by
  unfold mayI
  simp
theorem rows3 {w : World} {g : Nat} {a b c : Nat} (h : Blk w g 47 [uV a, uV b, uV c].toArray) : RowOf uV w (some ⟨g, 0, none⟩) [a, b, c] :=
  RowOf.blk h (fun i hi => by match i, hi with | 0, _ => rfl | 1, _ => rfl | 2, _ => rfl)

set_option maxRecDepth 100000 in
set_option maxHeartbeats 2000000 in
theorem intsParse_law (A : Option Addr) (c : Nat) (xs : List askT.den) (w : World) (hl : xs.length * askT.bytes ≤ 140737488351232) (hel : 0 < xs.length → ∃ b o, A = some ⟨b, o, none⟩ ∧ ∀ (i : Nat) (hi : i < xs.length), askT.At w (fun j => w.cell? ⟨b, o + i * askT.size + j, none⟩) xs[i]) :
    Rt Try.prog 4 [.slice A xs.length c] w (fun v w' => v = .bool true ∧ From w w') := by
  have hlen : xs.length * 64 ≤ 140737488351232 := hl
  refine enter (n := 92) Try.func4 rfl rfl rfl ?_
  refine cd_seq ?_
  refine cd_region ?_
  refine st_val (ro_assign (v := .bool _) rfl) ?_
  refine st_nil ?_
  refine nx_then ?_
  refine cd_seq ?_
  refine cd_seq ?_
  refine cd_region ?_
  refine st_val (ro_assign (v := .int _ _) rfl) ?_
  refine st_nil ?_
  refine nx_then ?_
  refine cd_block ?_
  refine cd_loop (G := Nat) [2, 4, 5, 6, 7, 8, 9, 10, 11, 12, 13, 14, 15, 16, 17, 18, 19, 20, 21, 22, 23, 24, 25, 26, 27, 28, 29, 30, 31, 32, 33, 34, 35, 36, 37, 38, 39, 40, 41, 42, 43, 44, 45, 46, 47, 48, 49, 50, 51, 52, 53, 54, 55, 56, 57, 58, 59, 60, 61, 62, 63, 64, 65, 66, 67, 68, 69, 70, 71, 72, 73, 74, 75, 76, 77, 78, 79, 80, 81, 82, 83, 84, 85, 86, 87, 88, 89, 90] (fun k => [(3, .int .i64 (k : Nat))]) (fun k w' => k ≤ xs.length ∧ From w w') (fun k => xs.length - k) (0) ⟨rfl, trivial⟩ ?_ ?_
  · exact ⟨Nat.zero_le _, From.rfl_⟩
  rintro k ρ1 w1 ⟨hk, hB⟩
  refine cd_seq ?_
  refine cd_seq ?_
  refine cd_region ?_
  refine st_val (ro_move (v := .int _ _) rfl) ?_
  refine st_val (ro_move (v := .slice _ _ _) rfl) ?_
  refine st_val (ro_len IntsLaws2_l22 rfl) ?_
  refine st_val (ro_lss rfl rfl) ?_
  refine st_val (ro_move (v := .bool _) rfl) ?_
  refine st_split (t := 14) rfl (fun Q2 => ?_) (fun Q2 => ?_)
  · (try first | replace Q2 := bn_t Q2 | replace Q2 := bn_f Q2)
    (try first | replace Q2 := bx_t Q2 | replace Q2 := bx_f Q2 | replace Q2 := be_t Q2 | replace Q2 := be_f Q2 | replace Q2 := of_decide_eq_true Q2 | replace Q2 := of_decide_eq_false Q2)
    obtain ⟨b, o, rfl, hel2⟩ := hel (by omega)
    obtain ⟨W, N, A1, ca, L, A2, cb, M, hask⟩ := ask_at (hel2 k (by omega))
    first
     | (exfalso; first | omega | (simp at *; done) | contradiction | (cases Q2; done))
     | skip
       refine st_unguard rfl ?_
       refine st_val (ro_move (v := .int _ _) rfl) ?_
       refine st_unguard rfl ?_
       refine st_val (ro_lss rfl rfl) ?_
       refine st_val (ro_pickT (v := .bool _) rfl rfl) ?_
       refine st_nil ?_
       refine nx_then ?_
       refine cd_cond rfl (fun Q3 => ?_) (fun Q3 => ?_)
       · (try first | replace Q3 := bn_t Q3 | replace Q3 := bn_f Q3)
         (try first | replace Q3 := bx_t Q3 | replace Q3 := bx_f Q3 | replace Q3 := be_t Q3 | replace Q3 := be_f Q3 | replace Q3 := of_decide_eq_true Q3 | replace Q3 := of_decide_eq_false Q3)
         first
          | (exfalso; first | omega | (simp at *; done) | contradiction | (cases Q3; done))
          | skip
            refine cd_skip ?_
            refine nx_then ?_
            refine cd_seq ?_
            refine cd_block ?_
            refine cd_seq ?_
            refine cd_region ?_
            refine st_val (ro_move (v := .slice _ _ _) rfl) ?_
            refine st_val (ro_move (v := .int _ _) rfl) ?_
            refine st_val (ro_indexAddrN IntsLaws2_e22 rfl rfl (by omega)) ?_
            refine st_val (ro_loadA (cs := [_, _, _, _]) IntsLaws2_g26 IntsLaws2_z26 rfl (by exact rangeF hB hask.cells)) ?_
            refine st_alloc IntsLaws2_o26 ?_
            intro b4 w4 E4 hb4 hk4
            refine st_putW (vs := [_, _, _, _]) IntsLaws2_z26 rfl rfl (by simp [Value.oneCell']) (hk4) rfl ?_
            intro w5 O4 P4
            refine st_nil ?_
            refine nx_then ?_
            refine cd_seq ?_
            refine cd_seq ?_
            refine cd_region ?_
            refine st_val (ro_loadA (cs := [_, _, _, _]) IntsLaws2_g26 IntsLaws2_z26 rfl (by exact P4.whole)) ?_
            refine st_call IntsLaws2_k7 (heavy_any W N A1 A2 L.length ca M.length cb _) ?_
            rintro v25 w6 ⟨rfl, E25⟩
            refine st_val (ro_move (v := .bool _) rfl) ?_
            refine st_split (t := 26) rfl (fun Q7 => ?_) (fun Q7 => ?_)
            · (try first | replace Q7 := bn_t Q7 | replace Q7 := bn_f Q7)
              (try first | replace Q7 := bx_t Q7 | replace Q7 := bx_f Q7 | replace Q7 := be_t Q7 | replace Q7 := be_f Q7 | replace Q7 := of_decide_eq_true Q7 | replace Q7 := of_decide_eq_false Q7)
              first
               | (exfalso; first | omega | (simp at *; done) | contradiction | (cases Q7; done))
               | skip
                 refine st_gno rfl rfl ?_
                 refine st_gno rfl rfl ?_
                 refine st_gno rfl rfl ?_
                 refine st_gno rfl rfl ?_
                 refine st_gund rfl ?_
                 refine st_gund rfl ?_
                 refine st_gund rfl ?_
                 refine st_gno rfl rfl ?_
                 refine st_val (ro_pickT (v := .bool _) rfl rfl) ?_
                 refine st_nil ?_
                 refine nx_then ?_
                 refine cd_condT rfl ?_
                 refine cd_seq ?_
                 refine cd_region ?_
                 refine st_val (ro_assign (v := .bool _) rfl) ?_
                 refine st_nil ?_
                 refine nx_then ?_
                 refine cd_ret ?_
                 refine rt_then ?_
                 refine rt_block ?_
                 refine rt_then ?_
                 refine rt_then ?_
                 refine rt_block ?_
                 refine rt_then ?_
                 refine res1 (v := .bool _) rfl rfl ?_
                 exact ⟨rfl, (((hB.next E4).only O4 (by rw [hb4]; exact hB.size)).next E25)⟩
            · (try first | replace Q7 := bn_t Q7 | replace Q7 := bn_f Q7)
              (try first | replace Q7 := bx_t Q7 | replace Q7 := bx_f Q7 | replace Q7 := be_t Q7 | replace Q7 := be_f Q7 | replace Q7 := of_decide_eq_true Q7 | replace Q7 := of_decide_eq_false Q7)
              first
               | (exfalso; first | omega | (simp at *; done) | contradiction | (cases Q7; done))
               | skip
                 refine st_unguard rfl ?_
                 refine st_val (ro_fieldAddr IntsLaws2_f26_2 rfl) ?_
                 refine st_unguard rfl ?_
                 refine st_val (ro_load IntsLaws2_g3 rfl (by first | (first | exact (P4.from_ (From.rfl_.next E25)).rd 0 rfl | exact (P4.from_ (From.rfl_.next E25)).rd 1 rfl | exact (P4.from_ (From.rfl_.next E25)).rd 2 rfl | exact (P4.from_ (From.rfl_.next E25)).rd 3 rfl))) ?_
                 refine st_unguard rfl ?_
                 refine st_val (ro_gtr rfl rfl) ?_
                 refine st_unguard rfl ?_
                 refine st_val (ro_move (v := .bool _) rfl) ?_
                 refine st_split (t := 30) rfl (fun Q8 => ?_) (fun Q8 => ?_)
                 · (try first | replace Q8 := bn_t Q8 | replace Q8 := bn_f Q8)
                   (try first | replace Q8 := bx_t Q8 | replace Q8 := bx_f Q8 | replace Q8 := be_t Q8 | replace Q8 := be_f Q8 | replace Q8 := of_decide_eq_true Q8 | replace Q8 := of_decide_eq_false Q8)
                   first
                    | (exfalso; first | omega | (simp at *; done) | contradiction | (cases Q8; done))
                    | skip
                      refine st_unguard rfl ?_
                      refine st_val (ro_fieldAddr IntsLaws2_f26_2 rfl) ?_
                      refine st_unguard rfl ?_
                      refine st_val (ro_load IntsLaws2_g3 rfl (by first | (first | exact (P4.from_ (From.rfl_.next E25)).rd 0 rfl | exact (P4.from_ (From.rfl_.next E25)).rd 1 rfl | exact (P4.from_ (From.rfl_.next E25)).rd 2 rfl | exact (P4.from_ (From.rfl_.next E25)).rd 3 rfl))) ?_
                      refine st_unguard rfl ?_
                      refine st_val (ro_leq rfl rfl) ?_
                      refine st_unguard rfl ?_
                      refine st_val (ro_pickT (v := .bool _) rfl rfl) ?_
                      refine st_val (ro_pickF (v := .bool _) rfl rfl) ?_
                      refine st_nil ?_
                      refine nx_then ?_
                      refine cd_cond rfl (fun Q9 => ?_) (fun Q9 => ?_)
                      · (try first | replace Q9 := bn_t Q9 | replace Q9 := bn_f Q9)
                        (try first | replace Q9 := bx_t Q9 | replace Q9 := bx_f Q9 | replace Q9 := be_t Q9 | replace Q9 := be_f Q9 | replace Q9 := of_decide_eq_true Q9 | replace Q9 := of_decide_eq_false Q9)
                        first
                         | (exfalso; first | omega | (simp at *; done) | contradiction | (cases Q9; done))
                         | skip
                           refine cd_seq ?_
                           refine cd_region ?_
                           refine st_val (ro_assign (v := .bool _) rfl) ?_
                           refine st_nil ?_
                           refine nx_then ?_
                           refine cd_ret ?_
                           refine rt_then ?_
                           refine rt_block ?_
                           refine rt_then ?_
                           refine rt_then ?_
                           refine rt_block ?_
                           refine rt_then ?_
                           refine res1 (v := .bool _) rfl rfl ?_
                           exact ⟨rfl, (((hB.next E4).only O4 (by rw [hb4]; exact hB.size)).next E25)⟩
                      · (try first | replace Q9 := bn_t Q9 | replace Q9 := bn_f Q9)
                        (try first | replace Q9 := bx_t Q9 | replace Q9 := bx_f Q9 | replace Q9 := be_t Q9 | replace Q9 := be_f Q9 | replace Q9 := of_decide_eq_true Q9 | replace Q9 := of_decide_eq_false Q9)
                        first
                         | (exfalso; first | omega | (simp at *; done) | contradiction | (cases Q9; done))
                         | skip
                           refine cd_skip ?_
                           refine nx_then ?_
                           refine cd_seq ?_
                           refine cd_region ?_
                           refine st_val (ro_fieldAddr IntsLaws2_f26_3 rfl) ?_
                           refine st_val (ro_load IntsLaws2_g24 rfl (by first | (first | exact (P4.from_ (From.rfl_.next E25)).rd 0 rfl | exact (P4.from_ (From.rfl_.next E25)).rd 1 rfl | exact (P4.from_ (From.rfl_.next E25)).rd 2 rfl | exact (P4.from_ (From.rfl_.next E25)).rd 3 rfl))) ?_
                           have hlt38 := (P4.from_ (From.rfl_.next E25)).lt
                           have hB38 := (((hB.next E4).only O4 (by rw [hb4]; exact hB.size)).next E25)
                           refine st_call IntsLaws2_k19 (copyBytes_any A2 cb M _ (hask.rowM.from_ (((hB.next E4).only O4 (by rw [hb4]; exact hB.size)).next E25)) (by omega)) ?_
                           rintro v38 w10 ⟨A38, c38, rfl, ho38, E38⟩
                           refine st_val (ro_assign (v := .slice _ _ _) rfl) ?_
                           refine st_nil ?_
                           refine nx_then ?_
                           refine cd_seq ?_
                           refine cd_region ?_
                           refine st_val (ro_fieldAddr IntsLaws2_f26_0 rfl) ?_
                           refine st_val (ro_load IntsLaws2_g3 rfl (by first | (first | exact (P4.from_ ((From.rfl_.next E25).next E38)).rd 0 rfl | exact (P4.from_ ((From.rfl_.next E25).next E38)).rd 1 rfl | exact (P4.from_ ((From.rfl_.next E25).next E38)).rd 2 rfl | exact (P4.from_ ((From.rfl_.next E25).next E38)).rd 3 rfl))) ?_
                           refine st_val (ro_fieldAddr IntsLaws2_f26_2 rfl) ?_
                           refine st_val (ro_load IntsLaws2_g3 rfl (by first | (first | exact (P4.from_ ((From.rfl_.next E25).next E38)).rd 0 rfl | exact (P4.from_ ((From.rfl_.next E25).next E38)).rd 1 rfl | exact (P4.from_ ((From.rfl_.next E25).next E38)).rd 2 rfl | exact (P4.from_ ((From.rfl_.next E25).next E38)).rd 3 rfl))) ?_
                           refine st_val (ro_move (v := .slice _ _ _) rfl) ?_
                           refine st_call IntsLaws2_k20 (parse_any W N A38 c38 M _ (RowOf.own ho38).2 hask.lenM hask.ltM) ?_
                           rintro v45 w11 ⟨hn45, E45⟩
                           rcases hn45 with ⟨rfl, hbad⟩ | ⟨g, l, rfl, hgood, hll, hlt, hbits, hI⟩
                           · refine st_val (ro_move (v := .tuple _) rfl) ?_
                             refine st_val (ro_extract rfl rfl) ?_
                             refine st_val (ro_extract rfl rfl) ?_
                             refine st_val (ro_assign (v := .pointer _) rfl) ?_
                             refine st_val (ro_assign (v := .int _ _) rfl) ?_
                             refine st_nil ?_
                             refine nx_then ?_
                             refine cd_seq ?_
                             refine cd_region ?_
                             refine st_val (ro_move (v := .slice _ _ _) rfl) ?_
                             refine st_call IntsLaws2_k17 (spoilBytes_any _ A38 c38 M _ hask.ltM (ho38.kept_from E45) hask.lenM (by have := E38.size; have := E45.size; omega)) ?_
                             rintro v49 w12 hG49
                             replace P4 := (P4.from_ (((From.rfl_.next E25).next E38).next E45)).grown hG49 (fun k hk e => by have := (own_lt ho38 hk).1; omega)
                             (try replace hI := hI.kept hG49 (fun k hk => (own_lt ho38 hk).2))
                             refine st_nil ?_
                             refine nx_then ?_
                             refine cd_seq ?_
                             refine cd_region ?_
                             refine st_val (ro_fieldAddr IntsLaws2_f26_0 rfl) ?_
                             refine st_val (ro_load IntsLaws2_g3 rfl (by first | (first | exact (P4.from_ From.rfl_).rd 0 rfl | exact (P4.from_ From.rfl_).rd 1 rfl | exact (P4.from_ From.rfl_).rd 2 rfl | exact (P4.from_ From.rfl_).rd 3 rfl))) ?_
                             refine st_val (ro_fieldAddr IntsLaws2_f26_2 rfl) ?_
                             refine st_val (ro_load IntsLaws2_g3 rfl (by first | (first | exact (P4.from_ From.rfl_).rd 0 rfl | exact (P4.from_ From.rfl_).rd 1 rfl | exact (P4.from_ From.rfl_).rd 2 rfl | exact (P4.from_ From.rfl_).rd 3 rfl))) ?_
                             refine st_val (ro_fieldAddr IntsLaws2_f26_3 rfl) ?_
                             refine st_val (ro_load IntsLaws2_g24 rfl (by first | (first | exact (P4.from_ From.rfl_).rd 0 rfl | exact (P4.from_ From.rfl_).rd 1 rfl | exact (P4.from_ From.rfl_).rd 2 rfl | exact (P4.from_ From.rfl_).rd 3 rfl))) ?_
                             refine st_call IntsLaws2_k21 (refParse_any W N A2 cb M _ (hask.rowM.from_ ((((((hB.next E4).only O4 (by rw [hb4]; exact hB.size)).next E25).next E38).next E45).grew hG49 (fun k hk => Nat.le_trans hB38.size (own_lt ho38 hk).1))) hask.lenM hask.ltM) ?_
                             rintro v57 w13 ⟨⟨A57, l57, c57, ok57, rfl, hok57, hp57⟩, E57⟩
                             first
                               | (have hk57 : ok57 = true := hok57.2 hgood; subst hk57; obtain ⟨r57, l57l, lt57, b57⟩ := hp57 hgood)
                               | (have hk57 : ok57 = false := by rw [← Bool.not_eq_true]; exact fun h => hbad (hok57.1 h)
                                  subst hk57)
                             refine st_val (ro_move (v := .tuple _) rfl) ?_
                             refine st_val (ro_extract rfl rfl) ?_
                             refine st_val (ro_extract rfl rfl) ?_
                             refine st_val (ro_assign (v := .slice _ _ _) rfl) ?_
                             refine st_val (ro_assign (v := .bool _) rfl) ?_
                             refine st_nil ?_
                             refine nx_then ?_
                             refine cd_seq ?_
                             refine cd_region ?_
                             refine st_val (ro_move (v := .bool _) rfl) ?_
                             refine st_val (ro_move (v := .int _ _) rfl) ?_
                             refine st_call IntsLaws2_k12 (num_any _ _) ?_
                             rintro v62 w14 ⟨rfl, rfl⟩
                             refine st_val (ro_eql rfl rfl) ?_
                             refine st_val (ro_neqB (by kernel_rfl) rfl rfl) ?_
                             refine st_val (ro_move (v := .bool _) rfl) ?_
                             refine st_split (t := 65) rfl (fun Q15 => ?_) (fun Q15 => ?_)
                             · (try first | replace Q15 := bn_t Q15 | replace Q15 := bn_f Q15)
                               (try first | replace Q15 := bx_t Q15 | replace Q15 := bx_f Q15 | replace Q15 := be_t Q15 | replace Q15 := be_f Q15 | replace Q15 := of_decide_eq_true Q15 | replace Q15 := of_decide_eq_false Q15)
                               first
                                | (exfalso; first | omega | (simp at *; done) | contradiction | (cases Q15; done))
                                | skip
                                  refine st_gno rfl rfl ?_
                                  refine st_gno rfl rfl ?_
                                  refine st_gno rfl rfl ?_
                                  refine st_gno rfl rfl ?_
                                  refine st_val (ro_pickT (v := .bool _) rfl rfl) ?_
                                  refine st_val (ro_move (v := .bool _) rfl) ?_
                                  refine st_gno rfl rfl ?_
                                  refine st_gno rfl rfl ?_
                                  refine st_gno rfl rfl ?_
                                  refine st_gund rfl ?_
                                  refine st_gund rfl ?_
                                  refine st_gund rfl ?_
                                  refine st_gno rfl rfl ?_
                                  refine st_val (ro_pickT (v := .bool _) rfl rfl) ?_
                                  refine st_val (ro_move (v := .bool _) rfl) ?_
                                  refine st_gno rfl rfl ?_
                                  refine st_gno rfl rfl ?_
                                  refine st_gund rfl ?_
                                  refine st_gund rfl ?_
                                  refine st_gund rfl ?_
                                  refine st_gund rfl ?_
                                  refine st_gund rfl ?_
                                  refine st_gund rfl ?_
                                  refine st_gno rfl rfl ?_
                                  refine st_val (ro_pickT (v := .bool _) rfl rfl) ?_
                                  refine st_nil ?_
                                  refine nx_then ?_
                                  refine cd_condT rfl ?_
                                  refine cd_seq ?_
                                  refine cd_region ?_
                                  refine st_val (ro_assign (v := .bool _) rfl) ?_
                                  refine st_nil ?_
                                  refine nx_then ?_
                                  refine cd_ret ?_
                                  refine rt_block ?_
                                  refine rt_then ?_
                                  refine rt_then ?_
                                  refine rt_block ?_
                                  refine rt_then ?_
                                  refine res1 (v := .bool _) rfl rfl ?_
                                  exfalso; first | omega | contradiction
                             · (try first | replace Q15 := bn_t Q15 | replace Q15 := bn_f Q15)
                               (try first | replace Q15 := bx_t Q15 | replace Q15 := bx_f Q15 | replace Q15 := be_t Q15 | replace Q15 := be_f Q15 | replace Q15 := of_decide_eq_true Q15 | replace Q15 := of_decide_eq_false Q15)
                               first
                                | (exfalso; first | omega | (simp at *; done) | contradiction | (cases Q15; done))
                                | skip
                                  refine st_unguard rfl ?_
                                  refine st_val (ro_move (v := .bool _) rfl) ?_
                                  refine st_unguard rfl ?_
                                  refine st_val (ro_move (v := .pointer _) rfl) ?_
                                  refine st_unguard rfl ?_
                                  refine st_val (ro_neqNil IntsLaws2_p29 rfl rfl) ?_
                                  refine st_unguard rfl ?_
                                  refine st_val (ro_neqB (by kernel_rfl) rfl rfl) ?_
                                  refine st_val (ro_pickF (v := .bool _) rfl rfl) ?_
                                  refine st_val (ro_move (v := .bool _) rfl) ?_
                                  refine st_split (t := 71) rfl (fun Q16 => ?_) (fun Q16 => ?_)
                                  · (try first | replace Q16 := bn_t Q16 | replace Q16 := bn_f Q16)
                                    (try first | replace Q16 := bx_t Q16 | replace Q16 := bx_f Q16 | replace Q16 := be_t Q16 | replace Q16 := be_f Q16 | replace Q16 := of_decide_eq_true Q16 | replace Q16 := of_decide_eq_false Q16)
                                    first
                                     | (exfalso; first | omega | (simp at *; done) | contradiction | (cases Q16; done))
                                     | skip
                                       refine st_gno rfl rfl ?_
                                       refine st_gno rfl rfl ?_
                                       refine st_gno rfl rfl ?_
                                       refine st_gund rfl ?_
                                       refine st_gund rfl ?_
                                       refine st_gund rfl ?_
                                       refine st_gno rfl rfl ?_
                                       refine st_val (ro_pickT (v := .bool _) rfl rfl) ?_
                                       refine st_val (ro_move (v := .bool _) rfl) ?_
                                       refine st_gno rfl rfl ?_
                                       refine st_gno rfl rfl ?_
                                       refine st_gund rfl ?_
                                       refine st_gund rfl ?_
                                       refine st_gund rfl ?_
                                       refine st_gund rfl ?_
                                       refine st_gund rfl ?_
                                       refine st_gund rfl ?_
                                       refine st_gno rfl rfl ?_
                                       refine st_val (ro_pickT (v := .bool _) rfl rfl) ?_
                                       refine st_nil ?_
                                       refine nx_then ?_
                                       refine cd_condT rfl ?_
                                       refine cd_seq ?_
                                       refine cd_region ?_
                                       refine st_val (ro_assign (v := .bool _) rfl) ?_
                                       refine st_nil ?_
                                       refine nx_then ?_
                                       refine cd_ret ?_
                                       refine rt_block ?_
                                       refine rt_then ?_
                                       refine rt_then ?_
                                       refine rt_block ?_
                                       refine rt_then ?_
                                       refine res1 (v := .bool _) rfl rfl ?_
                                       exfalso; first | omega | contradiction
                                  · (try first | replace Q16 := bn_t Q16 | replace Q16 := bn_f Q16)
                                    (try first | replace Q16 := bx_t Q16 | replace Q16 := bx_f Q16 | replace Q16 := be_t Q16 | replace Q16 := be_f Q16 | replace Q16 := of_decide_eq_true Q16 | replace Q16 := of_decide_eq_false Q16)
                                    first
                                     | (exfalso; first | omega | (simp at *; done) | contradiction | (cases Q16; done))
                                     | skip
                                       refine st_unguard rfl ?_
                                       refine st_val (ro_move (v := .bool _) rfl) ?_
                                       refine st_unguard rfl ?_
                                       refine st_val (ro_not rfl) ?_
                                       refine st_unguard rfl ?_
                                       refine st_val (ro_move (v := .bool _) rfl) ?_
                                       refine st_split (t := 74) rfl (fun Q17 => ?_) (fun Q17 => ?_)
                                       · (try first | replace Q17 := bn_t Q17 | replace Q17 := bn_f Q17)
                                         (try first | replace Q17 := bx_t Q17 | replace Q17 := bx_f Q17 | replace Q17 := be_t Q17 | replace Q17 := be_f Q17 | replace Q17 := of_decide_eq_true Q17 | replace Q17 := of_decide_eq_false Q17)
                                         first
                                          | (exfalso; first | omega | (simp at *; done) | contradiction | (cases Q17; done))
                                          | skip
                                            refine st_unguard rfl ?_
                                            refine st_val (ro_move (v := .int _ _) rfl) ?_
                                            refine st_unguard rfl ?_
                                            refine st_call IntsLaws2_k12 (num_any _ _) ?_
                                            rintro v76 w18 ⟨rfl, rfl⟩
                                            refine st_unguard rfl ?_
                                            refine st_val (ro_neq rfl rfl) ?_
                                            refine st_unguard rfl ?_
                                            refine st_val (ro_pickT (v := .bool _) rfl rfl) ?_
                                            refine st_val (ro_pickF (v := .bool _) rfl rfl) ?_
                                            refine st_val (ro_move (v := .bool _) rfl) ?_
                                            refine st_split (t := 80) rfl (fun Q19 => ?_) (fun Q19 => ?_)
                                            · (try first | replace Q19 := bn_t Q19 | replace Q19 := bn_f Q19)
                                              (try first | replace Q19 := bx_t Q19 | replace Q19 := bx_f Q19 | replace Q19 := be_t Q19 | replace Q19 := be_f Q19 | replace Q19 := of_decide_eq_true Q19 | replace Q19 := of_decide_eq_false Q19)
                                              first
                                               | (exfalso; first | omega | (simp at *; done) | contradiction | (cases Q19; done))
                                               | skip
                                                 refine st_gno rfl rfl ?_
                                                 refine st_gno rfl rfl ?_
                                                 refine st_gund rfl ?_
                                                 refine st_gund rfl ?_
                                                 refine st_gund rfl ?_
                                                 refine st_gund rfl ?_
                                                 refine st_gund rfl ?_
                                                 refine st_gund rfl ?_
                                                 refine st_gno rfl rfl ?_
                                                 refine st_val (ro_pickT (v := .bool _) rfl rfl) ?_
                                                 refine st_nil ?_
                                                 refine nx_then ?_
                                                 refine cd_condT rfl ?_
                                                 refine cd_seq ?_
                                                 refine cd_region ?_
                                                 refine st_val (ro_assign (v := .bool _) rfl) ?_
                                                 refine st_nil ?_
                                                 refine nx_then ?_
                                                 refine cd_ret ?_
                                                 refine rt_block ?_
                                                 refine rt_then ?_
                                                 refine rt_then ?_
                                                 refine rt_block ?_
                                                 refine rt_then ?_
                                                 refine res1 (v := .bool _) rfl rfl ?_
                                                 exfalso; first | omega | contradiction
                                            · (try first | replace Q19 := bn_t Q19 | replace Q19 := bn_f Q19)
                                              (try first | replace Q19 := bx_t Q19 | replace Q19 := bx_f Q19 | replace Q19 := be_t Q19 | replace Q19 := be_f Q19 | replace Q19 := of_decide_eq_true Q19 | replace Q19 := of_decide_eq_false Q19)
                                              first
                                               | (exfalso; first | omega | (simp at *; done) | contradiction | (cases Q19; done))
                                               | skip
                                                 refine st_unguard rfl ?_
                                                 refine st_val (ro_move (v := .bool _) rfl) ?_
                                                 refine st_unguard rfl ?_
                                                 refine st_val (ro_move (v := .bool _) rfl) ?_
                                                 refine st_split (t := 82) rfl (fun Q20 => ?_) (fun Q20 => ?_)
                                                 · (try first | replace Q20 := bn_t Q20 | replace Q20 := bn_f Q20)
                                                   (try first | replace Q20 := bx_t Q20 | replace Q20 := bx_f Q20 | replace Q20 := be_t Q20 | replace Q20 := be_f Q20 | replace Q20 := of_decide_eq_true Q20 | replace Q20 := of_decide_eq_false Q20)
                                                   first
                                                    | (exfalso; first | omega | (simp at *; done) | contradiction | (cases Q20; done))
                                                    | skip
                                                      refine st_unguard rfl ?_
                                                      refine st_val (ro_move (v := .pointer _) rfl) ?_
                                                      refine st_unguard rfl ?_
                                                      refine st_val (ro_fieldAddr IntsLaws2_f26_0 rfl) ?_
                                                      refine st_unguard rfl ?_
                                                      refine st_val (ro_load IntsLaws2_g3 rfl (by first | (first | exact (P4.from_ (From.rfl_.next E57)).rd 0 rfl | exact (P4.from_ (From.rfl_.next E57)).rd 1 rfl | exact (P4.from_ (From.rfl_.next E57)).rd 2 rfl | exact (P4.from_ (From.rfl_.next E57)).rd 3 rfl))) ?_
                                                      refine st_unguard rfl ?_
                                                      refine st_val (ro_move (v := .slice _ _ _) rfl) ?_
                                                      refine st_unguard rfl ?_
                                                      refine st_call IntsLaws2_k13 (same_eq _ g W.toNat W A57 c57 l l57 _ (hI.from_ (From.rfl_.next E57)) (r57.from_ From.rfl_) (by have := hgood.2.2.2.1; omega) (by have := hgood.1; omega) (nums_ext (by omega) hlt lt57 (fun t ht => by rw [hll] at ht; rw [hbits t ht, b57 t ht]))) ?_
                                                      rintro v87 w21 ⟨rfl, E87⟩
                                                      refine st_unguard rfl ?_
                                                      refine st_val (ro_not rfl) ?_
                                                      refine st_unguard rfl ?_
                                                      refine st_val (ro_pickT (v := .bool _) rfl rfl) ?_
                                                      refine st_val (ro_pickF (v := .bool _) rfl rfl) ?_
                                                      refine st_nil ?_
                                                      refine nx_then ?_
                                                      refine cd_cond rfl (fun Q22 => ?_) (fun Q22 => ?_)
                                                      · (try first | replace Q22 := bn_t Q22 | replace Q22 := bn_f Q22)
                                                        (try first | replace Q22 := bx_t Q22 | replace Q22 := bx_f Q22 | replace Q22 := be_t Q22 | replace Q22 := be_f Q22 | replace Q22 := of_decide_eq_true Q22 | replace Q22 := of_decide_eq_false Q22)
                                                        first
                                                         | (exfalso; first | omega | (simp at *; done) | contradiction | (cases Q22; done))
                                                         | skip
                                                           refine cd_seq ?_
                                                           refine cd_region ?_
                                                           refine st_val (ro_assign (v := .bool _) rfl) ?_
                                                           refine st_nil ?_
                                                           refine nx_then ?_
                                                           refine cd_ret ?_
                                                           refine rt_block ?_
                                                           refine rt_then ?_
                                                           refine rt_then ?_
                                                           refine rt_block ?_
                                                           refine rt_then ?_
                                                           refine res1 (v := .bool _) rfl rfl ?_
                                                           exfalso; first | omega | contradiction
                                                      · (try first | replace Q22 := bn_t Q22 | replace Q22 := bn_f Q22)
                                                        (try first | replace Q22 := bx_t Q22 | replace Q22 := bx_f Q22 | replace Q22 := be_t Q22 | replace Q22 := be_f Q22 | replace Q22 := of_decide_eq_true Q22 | replace Q22 := of_decide_eq_false Q22)
                                                        first
                                                         | (exfalso; first | omega | (simp at *; done) | contradiction | (cases Q22; done))
                                                         | skip
                                                           refine cd_skip ?_
                                                           refine nx_block ?_
                                                           refine nx_then ?_
                                                           refine cd_region ?_
                                                           refine st_val (ro_move (v := .int _ _) rfl) ?_
                                                           refine st_val (ro_addN (b := 1) rfl rfl (by omega)) ?_
                                                           refine st_val (ro_assign (v := .int _ _) rfl) ?_
                                                           refine st_nil ?_
                                                           refine nx_cut (k + 1) ⟨(by first | rfl | (refine int_eq ?_; omega)), trivial⟩ (by (iterate 185 refine agr_cons rfl ?_); exact agr_rfl) ⟨?_, ?_⟩
                                                           · exact ⟨by omega, ((((((((hB.next E4).only O4 (by rw [hb4]; exact hB.size)).next E25).next E38).next E45).grew hG49 (fun k hk => Nat.le_trans hB38.size (own_lt ho38 hk).1)).next E57).next E87)⟩
                                                           · omega
                                                 · (try first | replace Q20 := bn_t Q20 | replace Q20 := bn_f Q20)
                                                   (try first | replace Q20 := bx_t Q20 | replace Q20 := bx_f Q20 | replace Q20 := be_t Q20 | replace Q20 := be_f Q20 | replace Q20 := of_decide_eq_true Q20 | replace Q20 := of_decide_eq_false Q20)
                                                   first
                                                    | (exfalso; first | omega | (simp at *; done) | contradiction | (cases Q20; done))
                                                    | skip
                                                      refine st_gno rfl rfl ?_
                                                      refine st_gno rfl rfl ?_
                                                      refine st_gno rfl rfl ?_
                                                      refine st_gno rfl rfl ?_
                                                      refine st_gno rfl rfl ?_
                                                      refine st_gno rfl rfl ?_
                                                      refine st_unguard rfl ?_
                                                      refine st_val (ro_pickF (v := .bool _) rfl rfl) ?_
                                                      refine st_val (ro_pickF (v := .bool _) rfl rfl) ?_
                                                      refine st_nil ?_
                                                      refine nx_then ?_
                                                      refine cd_condF rfl ?_
                                                      refine cd_skip ?_
                                                      refine nx_block ?_
                                                      refine nx_then ?_
                                                      refine cd_region ?_
                                                      refine st_val (ro_move (v := .int _ _) rfl) ?_
                                                      refine st_val (ro_addN (b := 1) rfl rfl (by omega)) ?_
                                                      refine st_val (ro_assign (v := .int _ _) rfl) ?_
                                                      refine st_nil ?_
                                                      refine nx_cut (k + 1) ⟨(by first | rfl | (refine int_eq ?_; omega)), trivial⟩ (by (iterate 185 refine agr_cons rfl ?_); exact agr_rfl) ⟨?_, ?_⟩
                                                      · exact ⟨by omega, (((((((hB.next E4).only O4 (by rw [hb4]; exact hB.size)).next E25).next E38).next E45).grew hG49 (fun k hk => Nat.le_trans hB38.size (own_lt ho38 hk).1)).next E57)⟩
                                                      · omega
                                       · (try first | replace Q17 := bn_t Q17 | replace Q17 := bn_f Q17)
                                         (try first | replace Q17 := bx_t Q17 | replace Q17 := bx_f Q17 | replace Q17 := be_t Q17 | replace Q17 := be_f Q17 | replace Q17 := of_decide_eq_true Q17 | replace Q17 := of_decide_eq_false Q17)
                                         first
                                          | (exfalso; first | omega | (simp at *; done) | contradiction | (cases Q17; done))
                                          | skip
                                            refine st_gno rfl rfl ?_
                                            refine st_gno rfl rfl ?_
                                            refine st_gno rfl rfl ?_
                                            refine st_unguard rfl ?_
                                            refine st_val (ro_pickF (v := .bool _) rfl rfl) ?_
                                            refine st_val (ro_pickF (v := .bool _) rfl rfl) ?_
                                            refine st_val (ro_move (v := .bool _) rfl) ?_
                                            refine st_unguard rfl ?_
                                            refine st_val (ro_move (v := .bool _) rfl) ?_
                                            refine st_unguard rfl ?_
                                            refine st_val (ro_move (v := .bool _) rfl) ?_
                                            refine st_split (t := 82) rfl (fun Q23 => ?_) (fun Q23 => ?_)
                                            · (try first | replace Q23 := bn_t Q23 | replace Q23 := bn_f Q23)
                                              (try first | replace Q23 := bx_t Q23 | replace Q23 := bx_f Q23 | replace Q23 := be_t Q23 | replace Q23 := be_f Q23 | replace Q23 := of_decide_eq_true Q23 | replace Q23 := of_decide_eq_false Q23)
                                              first
                                               | (exfalso; first | omega | (simp at *; done) | contradiction | (cases Q23; done))
                                               | skip
                                                 refine st_unguard rfl ?_
                                                 refine st_val (ro_move (v := .pointer _) rfl) ?_
                                                 refine st_unguard rfl ?_
                                                 refine st_val (ro_fieldAddr IntsLaws2_f26_0 rfl) ?_
                                                 refine st_unguard rfl ?_
                                                 refine st_val (ro_load IntsLaws2_g3 rfl (by first | (first | exact (P4.from_ (From.rfl_.next E57)).rd 0 rfl | exact (P4.from_ (From.rfl_.next E57)).rd 1 rfl | exact (P4.from_ (From.rfl_.next E57)).rd 2 rfl | exact (P4.from_ (From.rfl_.next E57)).rd 3 rfl))) ?_
                                                 refine st_unguard rfl ?_
                                                 refine st_val (ro_move (v := .slice _ _ _) rfl) ?_
                                                 refine st_unguard rfl ?_
                                                 refine st_call IntsLaws2_k13 (same_eq _ g W.toNat W A57 c57 l l57 _ (hI.from_ (From.rfl_.next E57)) (r57.from_ From.rfl_) (by have := hgood.2.2.2.1; omega) (by have := hgood.1; omega) (nums_ext (by omega) hlt lt57 (fun t ht => by rw [hll] at ht; rw [hbits t ht, b57 t ht]))) ?_
                                                 rintro v87 w24 ⟨rfl, E87⟩
                                                 refine st_unguard rfl ?_
                                                 refine st_val (ro_not rfl) ?_
                                                 refine st_unguard rfl ?_
                                                 refine st_val (ro_pickT (v := .bool _) rfl rfl) ?_
                                                 refine st_val (ro_pickF (v := .bool _) rfl rfl) ?_
                                                 refine st_nil ?_
                                                 refine nx_then ?_
                                                 refine cd_cond rfl (fun Q25 => ?_) (fun Q25 => ?_)
                                                 · (try first | replace Q25 := bn_t Q25 | replace Q25 := bn_f Q25)
                                                   (try first | replace Q25 := bx_t Q25 | replace Q25 := bx_f Q25 | replace Q25 := be_t Q25 | replace Q25 := be_f Q25 | replace Q25 := of_decide_eq_true Q25 | replace Q25 := of_decide_eq_false Q25)
                                                   first
                                                    | (exfalso; first | omega | (simp at *; done) | contradiction | (cases Q25; done))
                                                    | skip
                                                      refine cd_seq ?_
                                                      refine cd_region ?_
                                                      refine st_val (ro_assign (v := .bool _) rfl) ?_
                                                      refine st_nil ?_
                                                      refine nx_then ?_
                                                      refine cd_ret ?_
                                                      refine rt_block ?_
                                                      refine rt_then ?_
                                                      refine rt_then ?_
                                                      refine rt_block ?_
                                                      refine rt_then ?_
                                                      refine res1 (v := .bool _) rfl rfl ?_
                                                      exfalso; first | omega | contradiction
                                                 · (try first | replace Q25 := bn_t Q25 | replace Q25 := bn_f Q25)
                                                   (try first | replace Q25 := bx_t Q25 | replace Q25 := bx_f Q25 | replace Q25 := be_t Q25 | replace Q25 := be_f Q25 | replace Q25 := of_decide_eq_true Q25 | replace Q25 := of_decide_eq_false Q25)
                                                   first
                                                    | (exfalso; first | omega | (simp at *; done) | contradiction | (cases Q25; done))
                                                    | skip
                                                      refine cd_skip ?_
                                                      refine nx_block ?_
                                                      refine nx_then ?_
                                                      refine cd_region ?_
                                                      refine st_val (ro_move (v := .int _ _) rfl) ?_
                                                      refine st_val (ro_addN (b := 1) rfl rfl (by omega)) ?_
                                                      refine st_val (ro_assign (v := .int _ _) rfl) ?_
                                                      refine st_nil ?_
                                                      refine nx_cut (k + 1) ⟨(by first | rfl | (refine int_eq ?_; omega)), trivial⟩ (by (iterate 184 refine agr_cons rfl ?_); exact agr_rfl) ⟨?_, ?_⟩
                                                      · exact ⟨by omega, ((((((((hB.next E4).only O4 (by rw [hb4]; exact hB.size)).next E25).next E38).next E45).grew hG49 (fun k hk => Nat.le_trans hB38.size (own_lt ho38 hk).1)).next E57).next E87)⟩
                                                      · omega
                                            · (try first | replace Q23 := bn_t Q23 | replace Q23 := bn_f Q23)
                                              (try first | replace Q23 := bx_t Q23 | replace Q23 := bx_f Q23 | replace Q23 := be_t Q23 | replace Q23 := be_f Q23 | replace Q23 := of_decide_eq_true Q23 | replace Q23 := of_decide_eq_false Q23)
                                              first
                                               | (exfalso; first | omega | (simp at *; done) | contradiction | (cases Q23; done))
                                               | skip
                                                 refine st_gno rfl rfl ?_
                                                 refine st_gno rfl rfl ?_
                                                 refine st_gno rfl rfl ?_
                                                 refine st_gno rfl rfl ?_
                                                 refine st_gno rfl rfl ?_
                                                 refine st_gno rfl rfl ?_
                                                 refine st_unguard rfl ?_
                                                 refine st_val (ro_pickF (v := .bool _) rfl rfl) ?_
                                                 refine st_val (ro_pickF (v := .bool _) rfl rfl) ?_
                                                 refine st_nil ?_
                                                 refine nx_then ?_
                                                 refine cd_condF rfl ?_
                                                 refine cd_skip ?_
                                                 refine nx_block ?_
                                                 refine nx_then ?_
                                                 refine cd_region ?_
                                                 refine st_val (ro_move (v := .int _ _) rfl) ?_
                                                 refine st_val (ro_addN (b := 1) rfl rfl (by omega)) ?_
                                                 refine st_val (ro_assign (v := .int _ _) rfl) ?_
                                                 refine st_nil ?_
                                                 refine nx_cut (k + 1) ⟨(by first | rfl | (refine int_eq ?_; omega)), trivial⟩ (by (iterate 184 refine agr_cons rfl ?_); exact agr_rfl) ⟨?_, ?_⟩
                                                 · exact ⟨by omega, (((((((hB.next E4).only O4 (by rw [hb4]; exact hB.size)).next E25).next E38).next E45).grew hG49 (fun k hk => Nat.le_trans hB38.size (own_lt ho38 hk).1)).next E57)⟩
                                                 · omega
                           · refine st_val (ro_move (v := .tuple _) rfl) ?_
                             refine st_val (ro_extract rfl rfl) ?_
                             refine st_val (ro_extract rfl rfl) ?_
                             refine st_val (ro_assign (v := .pointer _) rfl) ?_
                             refine st_val (ro_assign (v := .int _ _) rfl) ?_
                             refine st_nil ?_
                             refine nx_then ?_
                             refine cd_seq ?_
                             refine cd_region ?_
                             refine st_val (ro_move (v := .slice _ _ _) rfl) ?_
                             refine st_call IntsLaws2_k17 (spoilBytes_any _ A38 c38 M _ hask.ltM (ho38.kept_from E45) hask.lenM (by have := E38.size; have := E45.size; omega)) ?_
                             rintro v49 w26 hG49
                             replace P4 := (P4.from_ (((From.rfl_.next E25).next E38).next E45)).grown hG49 (fun k hk e => by have := (own_lt ho38 hk).1; omega)
                             (try replace hI := hI.kept hG49 (fun k hk => (own_lt ho38 hk).2))
                             refine st_nil ?_
                             refine nx_then ?_
                             refine cd_seq ?_
                             refine cd_region ?_
                             refine st_val (ro_fieldAddr IntsLaws2_f26_0 rfl) ?_
                             refine st_val (ro_load IntsLaws2_g3 rfl (by first | (first | exact (P4.from_ From.rfl_).rd 0 rfl | exact (P4.from_ From.rfl_).rd 1 rfl | exact (P4.from_ From.rfl_).rd 2 rfl | exact (P4.from_ From.rfl_).rd 3 rfl))) ?_
                             refine st_val (ro_fieldAddr IntsLaws2_f26_2 rfl) ?_
                             refine st_val (ro_load IntsLaws2_g3 rfl (by first | (first | exact (P4.from_ From.rfl_).rd 0 rfl | exact (P4.from_ From.rfl_).rd 1 rfl | exact (P4.from_ From.rfl_).rd 2 rfl | exact (P4.from_ From.rfl_).rd 3 rfl))) ?_
                             refine st_val (ro_fieldAddr IntsLaws2_f26_3 rfl) ?_
                             refine st_val (ro_load IntsLaws2_g24 rfl (by first | (first | exact (P4.from_ From.rfl_).rd 0 rfl | exact (P4.from_ From.rfl_).rd 1 rfl | exact (P4.from_ From.rfl_).rd 2 rfl | exact (P4.from_ From.rfl_).rd 3 rfl))) ?_
                             refine st_call IntsLaws2_k21 (refParse_any W N A2 cb M _ (hask.rowM.from_ ((((((hB.next E4).only O4 (by rw [hb4]; exact hB.size)).next E25).next E38).next E45).grew hG49 (fun k hk => Nat.le_trans hB38.size (own_lt ho38 hk).1))) hask.lenM hask.ltM) ?_
                             rintro v57 w27 ⟨⟨A57, l57, c57, ok57, rfl, hok57, hp57⟩, E57⟩
                             first
                               | (have hk57 : ok57 = true := hok57.2 hgood; subst hk57; obtain ⟨r57, l57l, lt57, b57⟩ := hp57 hgood)
                               | (have hk57 : ok57 = false := by rw [← Bool.not_eq_true]; exact fun h => hbad (hok57.1 h)
                                  subst hk57)
                             refine st_val (ro_move (v := .tuple _) rfl) ?_
                             refine st_val (ro_extract rfl rfl) ?_
                             refine st_val (ro_extract rfl rfl) ?_
                             refine st_val (ro_assign (v := .slice _ _ _) rfl) ?_
                             refine st_val (ro_assign (v := .bool _) rfl) ?_
                             refine st_nil ?_
                             refine nx_then ?_
                             refine cd_seq ?_
                             refine cd_region ?_
                             refine st_val (ro_move (v := .bool _) rfl) ?_
                             refine st_val (ro_move (v := .int _ _) rfl) ?_
                             refine st_call IntsLaws2_k12 (num_any _ _) ?_
                             rintro v62 w28 ⟨rfl, rfl⟩
                             refine st_val (ro_eql rfl rfl) ?_
                             refine st_val (ro_neqB (by kernel_rfl) rfl rfl) ?_
                             refine st_val (ro_move (v := .bool _) rfl) ?_
                             refine st_split (t := 65) rfl (fun Q29 => ?_) (fun Q29 => ?_)
                             · (try first | replace Q29 := bn_t Q29 | replace Q29 := bn_f Q29)
                               (try first | replace Q29 := bx_t Q29 | replace Q29 := bx_f Q29 | replace Q29 := be_t Q29 | replace Q29 := be_f Q29 | replace Q29 := of_decide_eq_true Q29 | replace Q29 := of_decide_eq_false Q29)
                               first
                                | (exfalso; first | omega | (simp at *; done) | contradiction | (cases Q29; done))
                                | skip
                                  refine st_gno rfl rfl ?_
                                  refine st_gno rfl rfl ?_
                                  refine st_gno rfl rfl ?_
                                  refine st_gno rfl rfl ?_
                                  refine st_val (ro_pickT (v := .bool _) rfl rfl) ?_
                                  refine st_val (ro_move (v := .bool _) rfl) ?_
                                  refine st_gno rfl rfl ?_
                                  refine st_gno rfl rfl ?_
                                  refine st_gno rfl rfl ?_
                                  refine st_gund rfl ?_
                                  refine st_gund rfl ?_
                                  refine st_gund rfl ?_
                                  refine st_gno rfl rfl ?_
                                  refine st_val (ro_pickT (v := .bool _) rfl rfl) ?_
                                  refine st_val (ro_move (v := .bool _) rfl) ?_
                                  refine st_gno rfl rfl ?_
                                  refine st_gno rfl rfl ?_
                                  refine st_gund rfl ?_
                                  refine st_gund rfl ?_
                                  refine st_gund rfl ?_
                                  refine st_gund rfl ?_
                                  refine st_gund rfl ?_
                                  refine st_gund rfl ?_
                                  refine st_gno rfl rfl ?_
                                  refine st_val (ro_pickT (v := .bool _) rfl rfl) ?_
                                  refine st_nil ?_
                                  refine nx_then ?_
                                  refine cd_condT rfl ?_
                                  refine cd_seq ?_
                                  refine cd_region ?_
                                  refine st_val (ro_assign (v := .bool _) rfl) ?_
                                  refine st_nil ?_
                                  refine nx_then ?_
                                  refine cd_ret ?_
                                  refine rt_block ?_
                                  refine rt_then ?_
                                  refine rt_then ?_
                                  refine rt_block ?_
                                  refine rt_then ?_
                                  refine res1 (v := .bool _) rfl rfl ?_
                                  exfalso; first | omega | contradiction
                             · (try first | replace Q29 := bn_t Q29 | replace Q29 := bn_f Q29)
                               (try first | replace Q29 := bx_t Q29 | replace Q29 := bx_f Q29 | replace Q29 := be_t Q29 | replace Q29 := be_f Q29 | replace Q29 := of_decide_eq_true Q29 | replace Q29 := of_decide_eq_false Q29)
                               first
                                | (exfalso; first | omega | (simp at *; done) | contradiction | (cases Q29; done))
                                | skip
                                  refine st_unguard rfl ?_
                                  refine st_val (ro_move (v := .bool _) rfl) ?_
                                  refine st_unguard rfl ?_
                                  refine st_val (ro_move (v := .pointer _) rfl) ?_
                                  refine st_unguard rfl ?_
                                  refine st_val (ro_neqNil IntsLaws2_p29 rfl rfl) ?_
                                  refine st_unguard rfl ?_
                                  refine st_val (ro_neqB (by kernel_rfl) rfl rfl) ?_
                                  refine st_val (ro_pickF (v := .bool _) rfl rfl) ?_
                                  refine st_val (ro_move (v := .bool _) rfl) ?_
                                  refine st_split (t := 71) rfl (fun Q30 => ?_) (fun Q30 => ?_)
                                  · (try first | replace Q30 := bn_t Q30 | replace Q30 := bn_f Q30)
                                    (try first | replace Q30 := bx_t Q30 | replace Q30 := bx_f Q30 | replace Q30 := be_t Q30 | replace Q30 := be_f Q30 | replace Q30 := of_decide_eq_true Q30 | replace Q30 := of_decide_eq_false Q30)
                                    first
                                     | (exfalso; first | omega | (simp at *; done) | contradiction | (cases Q30; done))
                                     | skip
                                       refine st_gno rfl rfl ?_
                                       refine st_gno rfl rfl ?_
                                       refine st_gno rfl rfl ?_
                                       refine st_gund rfl ?_
                                       refine st_gund rfl ?_
                                       refine st_gund rfl ?_
                                       refine st_gno rfl rfl ?_
                                       refine st_val (ro_pickT (v := .bool _) rfl rfl) ?_
                                       refine st_val (ro_move (v := .bool _) rfl) ?_
                                       refine st_gno rfl rfl ?_
                                       refine st_gno rfl rfl ?_
                                       refine st_gund rfl ?_
                                       refine st_gund rfl ?_
                                       refine st_gund rfl ?_
                                       refine st_gund rfl ?_
                                       refine st_gund rfl ?_
                                       refine st_gund rfl ?_
                                       refine st_gno rfl rfl ?_
                                       refine st_val (ro_pickT (v := .bool _) rfl rfl) ?_
                                       refine st_nil ?_
                                       refine nx_then ?_
                                       refine cd_condT rfl ?_
                                       refine cd_seq ?_
                                       refine cd_region ?_
                                       refine st_val (ro_assign (v := .bool _) rfl) ?_
                                       refine st_nil ?_
                                       refine nx_then ?_
                                       refine cd_ret ?_
                                       refine rt_block ?_
                                       refine rt_then ?_
                                       refine rt_then ?_
                                       refine rt_block ?_
                                       refine rt_then ?_
                                       refine res1 (v := .bool _) rfl rfl ?_
                                       exfalso; first | omega | contradiction
                                  · (try first | replace Q30 := bn_t Q30 | replace Q30 := bn_f Q30)
                                    (try first | replace Q30 := bx_t Q30 | replace Q30 := bx_f Q30 | replace Q30 := be_t Q30 | replace Q30 := be_f Q30 | replace Q30 := of_decide_eq_true Q30 | replace Q30 := of_decide_eq_false Q30)
                                    first
                                     | (exfalso; first | omega | (simp at *; done) | contradiction | (cases Q30; done))
                                     | skip
                                       refine st_unguard rfl ?_
                                       refine st_val (ro_move (v := .bool _) rfl) ?_
                                       refine st_unguard rfl ?_
                                       refine st_val (ro_not rfl) ?_
                                       refine st_unguard rfl ?_
                                       refine st_val (ro_move (v := .bool _) rfl) ?_
                                       refine st_split (t := 74) rfl (fun Q31 => ?_) (fun Q31 => ?_)
                                       · (try first | replace Q31 := bn_t Q31 | replace Q31 := bn_f Q31)
                                         (try first | replace Q31 := bx_t Q31 | replace Q31 := bx_f Q31 | replace Q31 := be_t Q31 | replace Q31 := be_f Q31 | replace Q31 := of_decide_eq_true Q31 | replace Q31 := of_decide_eq_false Q31)
                                         first
                                          | (exfalso; first | omega | (simp at *; done) | contradiction | (cases Q31; done))
                                          | skip
                                            refine st_unguard rfl ?_
                                            refine st_val (ro_move (v := .int _ _) rfl) ?_
                                            refine st_unguard rfl ?_
                                            refine st_call IntsLaws2_k12 (num_any _ _) ?_
                                            rintro v76 w32 ⟨rfl, rfl⟩
                                            refine st_unguard rfl ?_
                                            refine st_val (ro_neq rfl rfl) ?_
                                            refine st_unguard rfl ?_
                                            refine st_val (ro_pickT (v := .bool _) rfl rfl) ?_
                                            refine st_val (ro_pickF (v := .bool _) rfl rfl) ?_
                                            refine st_val (ro_move (v := .bool _) rfl) ?_
                                            refine st_split (t := 80) rfl (fun Q33 => ?_) (fun Q33 => ?_)
                                            · (try first | replace Q33 := bn_t Q33 | replace Q33 := bn_f Q33)
                                              (try first | replace Q33 := bx_t Q33 | replace Q33 := bx_f Q33 | replace Q33 := be_t Q33 | replace Q33 := be_f Q33 | replace Q33 := of_decide_eq_true Q33 | replace Q33 := of_decide_eq_false Q33)
                                              first
                                               | (exfalso; first | omega | (simp at *; done) | contradiction | (cases Q33; done))
                                               | skip
                                                 refine st_gno rfl rfl ?_
                                                 refine st_gno rfl rfl ?_
                                                 refine st_gund rfl ?_
                                                 refine st_gund rfl ?_
                                                 refine st_gund rfl ?_
                                                 refine st_gund rfl ?_
                                                 refine st_gund rfl ?_
                                                 refine st_gund rfl ?_
                                                 refine st_gno rfl rfl ?_
                                                 refine st_val (ro_pickT (v := .bool _) rfl rfl) ?_
                                                 refine st_nil ?_
                                                 refine nx_then ?_
                                                 refine cd_condT rfl ?_
                                                 refine cd_seq ?_
                                                 refine cd_region ?_
                                                 refine st_val (ro_assign (v := .bool _) rfl) ?_
                                                 refine st_nil ?_
                                                 refine nx_then ?_
                                                 refine cd_ret ?_
                                                 refine rt_block ?_
                                                 refine rt_then ?_
                                                 refine rt_then ?_
                                                 refine rt_block ?_
                                                 refine rt_then ?_
                                                 refine res1 (v := .bool _) rfl rfl ?_
                                                 exfalso; first | omega | contradiction
                                            · (try first | replace Q33 := bn_t Q33 | replace Q33 := bn_f Q33)
                                              (try first | replace Q33 := bx_t Q33 | replace Q33 := bx_f Q33 | replace Q33 := be_t Q33 | replace Q33 := be_f Q33 | replace Q33 := of_decide_eq_true Q33 | replace Q33 := of_decide_eq_false Q33)
                                              first
                                               | (exfalso; first | omega | (simp at *; done) | contradiction | (cases Q33; done))
                                               | skip
                                                 refine st_unguard rfl ?_
                                                 refine st_val (ro_move (v := .bool _) rfl) ?_
                                                 refine st_unguard rfl ?_
                                                 refine st_val (ro_move (v := .bool _) rfl) ?_
                                                 refine st_split (t := 82) rfl (fun Q34 => ?_) (fun Q34 => ?_)
                                                 · (try first | replace Q34 := bn_t Q34 | replace Q34 := bn_f Q34)
                                                   (try first | replace Q34 := bx_t Q34 | replace Q34 := bx_f Q34 | replace Q34 := be_t Q34 | replace Q34 := be_f Q34 | replace Q34 := of_decide_eq_true Q34 | replace Q34 := of_decide_eq_false Q34)
                                                   first
                                                    | (exfalso; first | omega | (simp at *; done) | contradiction | (cases Q34; done))
                                                    | skip
                                                      refine st_unguard rfl ?_
                                                      refine st_val (ro_move (v := .pointer _) rfl) ?_
                                                      refine st_unguard rfl ?_
                                                      refine st_val (ro_fieldAddr IntsLaws2_f26_0 rfl) ?_
                                                      refine st_unguard rfl ?_
                                                      refine st_val (ro_load IntsLaws2_g3 rfl (by first | (first | exact (P4.from_ (From.rfl_.next E57)).rd 0 rfl | exact (P4.from_ (From.rfl_.next E57)).rd 1 rfl | exact (P4.from_ (From.rfl_.next E57)).rd 2 rfl | exact (P4.from_ (From.rfl_.next E57)).rd 3 rfl))) ?_
                                                      refine st_unguard rfl ?_
                                                      refine st_val (ro_move (v := .slice _ _ _) rfl) ?_
                                                      refine st_unguard rfl ?_
                                                      refine st_call IntsLaws2_k13 (same_eq _ g W.toNat W A57 c57 l l57 _ (hI.from_ (From.rfl_.next E57)) (r57.from_ From.rfl_) (by have := hgood.2.2.2.1; omega) (by have := hgood.1; omega) (nums_ext (by omega) hlt lt57 (fun t ht => by rw [hll] at ht; rw [hbits t ht, b57 t ht]))) ?_
                                                      rintro v87 w35 ⟨rfl, E87⟩
                                                      refine st_unguard rfl ?_
                                                      refine st_val (ro_not rfl) ?_
                                                      refine st_unguard rfl ?_
                                                      refine st_val (ro_pickT (v := .bool _) rfl rfl) ?_
                                                      refine st_val (ro_pickF (v := .bool _) rfl rfl) ?_
                                                      refine st_nil ?_
                                                      refine nx_then ?_
                                                      refine cd_cond rfl (fun Q36 => ?_) (fun Q36 => ?_)
                                                      · (try first | replace Q36 := bn_t Q36 | replace Q36 := bn_f Q36)
                                                        (try first | replace Q36 := bx_t Q36 | replace Q36 := bx_f Q36 | replace Q36 := be_t Q36 | replace Q36 := be_f Q36 | replace Q36 := of_decide_eq_true Q36 | replace Q36 := of_decide_eq_false Q36)
                                                        first
                                                         | (exfalso; first | omega | (simp at *; done) | contradiction | (cases Q36; done))
                                                         | skip
                                                           refine cd_seq ?_
                                                           refine cd_region ?_
                                                           refine st_val (ro_assign (v := .bool _) rfl) ?_
                                                           refine st_nil ?_
                                                           refine nx_then ?_
                                                           refine cd_ret ?_
                                                           refine rt_block ?_
                                                           refine rt_then ?_
                                                           refine rt_then ?_
                                                           refine rt_block ?_
                                                           refine rt_then ?_
                                                           refine res1 (v := .bool _) rfl rfl ?_
                                                           exfalso; first | omega | contradiction
                                                      · (try first | replace Q36 := bn_t Q36 | replace Q36 := bn_f Q36)
                                                        (try first | replace Q36 := bx_t Q36 | replace Q36 := bx_f Q36 | replace Q36 := be_t Q36 | replace Q36 := be_f Q36 | replace Q36 := of_decide_eq_true Q36 | replace Q36 := of_decide_eq_false Q36)
                                                        first
                                                         | (exfalso; first | omega | (simp at *; done) | contradiction | (cases Q36; done))
                                                         | skip
                                                           refine cd_skip ?_
                                                           refine nx_block ?_
                                                           refine nx_then ?_
                                                           refine cd_region ?_
                                                           refine st_val (ro_move (v := .int _ _) rfl) ?_
                                                           refine st_val (ro_addN (b := 1) rfl rfl (by omega)) ?_
                                                           refine st_val (ro_assign (v := .int _ _) rfl) ?_
                                                           refine st_nil ?_
                                                           refine nx_cut (k + 1) ⟨(by first | rfl | (refine int_eq ?_; omega)), trivial⟩ (by (iterate 185 refine agr_cons rfl ?_); exact agr_rfl) ⟨?_, ?_⟩
                                                           · exact ⟨by omega, ((((((((hB.next E4).only O4 (by rw [hb4]; exact hB.size)).next E25).next E38).next E45).grew hG49 (fun k hk => Nat.le_trans hB38.size (own_lt ho38 hk).1)).next E57).next E87)⟩
                                                           · omega
                                                 · (try first | replace Q34 := bn_t Q34 | replace Q34 := bn_f Q34)
                                                   (try first | replace Q34 := bx_t Q34 | replace Q34 := bx_f Q34 | replace Q34 := be_t Q34 | replace Q34 := be_f Q34 | replace Q34 := of_decide_eq_true Q34 | replace Q34 := of_decide_eq_false Q34)
                                                   first
                                                    | (exfalso; first | omega | (simp at *; done) | contradiction | (cases Q34; done))
                                                    | skip
                                                      refine st_gno rfl rfl ?_
                                                      refine st_gno rfl rfl ?_
                                                      refine st_gno rfl rfl ?_
                                                      refine st_gno rfl rfl ?_
                                                      refine st_gno rfl rfl ?_
                                                      refine st_gno rfl rfl ?_
                                                      refine st_unguard rfl ?_
                                                      refine st_val (ro_pickF (v := .bool _) rfl rfl) ?_
                                                      refine st_val (ro_pickF (v := .bool _) rfl rfl) ?_
                                                      refine st_nil ?_
                                                      refine nx_then ?_
                                                      refine cd_condF rfl ?_
                                                      refine cd_skip ?_
                                                      refine nx_block ?_
                                                      refine nx_then ?_
                                                      refine cd_region ?_
                                                      refine st_val (ro_move (v := .int _ _) rfl) ?_
                                                      refine st_val (ro_addN (b := 1) rfl rfl (by omega)) ?_
                                                      refine st_val (ro_assign (v := .int _ _) rfl) ?_
                                                      refine st_nil ?_
                                                      refine nx_cut (k + 1) ⟨(by first | rfl | (refine int_eq ?_; omega)), trivial⟩ (by (iterate 185 refine agr_cons rfl ?_); exact agr_rfl) ⟨?_, ?_⟩
                                                      · exact ⟨by omega, (((((((hB.next E4).only O4 (by rw [hb4]; exact hB.size)).next E25).next E38).next E45).grew hG49 (fun k hk => Nat.le_trans hB38.size (own_lt ho38 hk).1)).next E57)⟩
                                                      · omega
                                       · (try first | replace Q31 := bn_t Q31 | replace Q31 := bn_f Q31)
                                         (try first | replace Q31 := bx_t Q31 | replace Q31 := bx_f Q31 | replace Q31 := be_t Q31 | replace Q31 := be_f Q31 | replace Q31 := of_decide_eq_true Q31 | replace Q31 := of_decide_eq_false Q31)
                                         first
                                          | (exfalso; first | omega | (simp at *; done) | contradiction | (cases Q31; done))
                                          | skip
                                            refine st_gno rfl rfl ?_
                                            refine st_gno rfl rfl ?_
                                            refine st_gno rfl rfl ?_
                                            refine st_unguard rfl ?_
                                            refine st_val (ro_pickF (v := .bool _) rfl rfl) ?_
                                            refine st_val (ro_pickF (v := .bool _) rfl rfl) ?_
                                            refine st_val (ro_move (v := .bool _) rfl) ?_
                                            refine st_unguard rfl ?_
                                            refine st_val (ro_move (v := .bool _) rfl) ?_
                                            refine st_unguard rfl ?_
                                            refine st_val (ro_move (v := .bool _) rfl) ?_
                                            refine st_split (t := 82) rfl (fun Q37 => ?_) (fun Q37 => ?_)
                                            · (try first | replace Q37 := bn_t Q37 | replace Q37 := bn_f Q37)
                                              (try first | replace Q37 := bx_t Q37 | replace Q37 := bx_f Q37 | replace Q37 := be_t Q37 | replace Q37 := be_f Q37 | replace Q37 := of_decide_eq_true Q37 | replace Q37 := of_decide_eq_false Q37)
                                              first
                                               | (exfalso; first | omega | (simp at *; done) | contradiction | (cases Q37; done))
                                               | skip
                                                 refine st_unguard rfl ?_
                                                 refine st_val (ro_move (v := .pointer _) rfl) ?_
                                                 refine st_unguard rfl ?_
                                                 refine st_val (ro_fieldAddr IntsLaws2_f26_0 rfl) ?_
                                                 refine st_unguard rfl ?_
                                                 refine st_val (ro_load IntsLaws2_g3 rfl (by first | (first | exact (P4.from_ (From.rfl_.next E57)).rd 0 rfl | exact (P4.from_ (From.rfl_.next E57)).rd 1 rfl | exact (P4.from_ (From.rfl_.next E57)).rd 2 rfl | exact (P4.from_ (From.rfl_.next E57)).rd 3 rfl))) ?_
                                                 refine st_unguard rfl ?_
                                                 refine st_val (ro_move (v := .slice _ _ _) rfl) ?_
                                                 refine st_unguard rfl ?_
                                                 refine st_call IntsLaws2_k13 (same_eq _ g W.toNat W A57 c57 l l57 _ (hI.from_ (From.rfl_.next E57)) (r57.from_ From.rfl_) (by have := hgood.2.2.2.1; omega) (by have := hgood.1; omega) (nums_ext (by omega) hlt lt57 (fun t ht => by rw [hll] at ht; rw [hbits t ht, b57 t ht]))) ?_
                                                 rintro v87 w38 ⟨rfl, E87⟩
                                                 refine st_unguard rfl ?_
                                                 refine st_val (ro_not rfl) ?_
                                                 refine st_unguard rfl ?_
                                                 refine st_val (ro_pickT (v := .bool _) rfl rfl) ?_
                                                 refine st_val (ro_pickF (v := .bool _) rfl rfl) ?_
                                                 refine st_nil ?_
                                                 refine nx_then ?_
                                                 refine cd_cond rfl (fun Q39 => ?_) (fun Q39 => ?_)
                                                 · (try first | replace Q39 := bn_t Q39 | replace Q39 := bn_f Q39)
                                                   (try first | replace Q39 := bx_t Q39 | replace Q39 := bx_f Q39 | replace Q39 := be_t Q39 | replace Q39 := be_f Q39 | replace Q39 := of_decide_eq_true Q39 | replace Q39 := of_decide_eq_false Q39)
                                                   first
                                                    | (exfalso; first | omega | (simp at *; done) | contradiction | (cases Q39; done))
                                                    | skip
                                                      refine cd_seq ?_
                                                      refine cd_region ?_
                                                      refine st_val (ro_assign (v := .bool _) rfl) ?_
                                                      refine st_nil ?_
                                                      refine nx_then ?_
                                                      refine cd_ret ?_
                                                      refine rt_block ?_
                                                      refine rt_then ?_
                                                      refine rt_then ?_
                                                      refine rt_block ?_
                                                      refine rt_then ?_
                                                      refine res1 (v := .bool _) rfl rfl ?_
                                                      exfalso; first | omega | contradiction
                                                 · (try first | replace Q39 := bn_t Q39 | replace Q39 := bn_f Q39)
                                                   (try first | replace Q39 := bx_t Q39 | replace Q39 := bx_f Q39 | replace Q39 := be_t Q39 | replace Q39 := be_f Q39 | replace Q39 := of_decide_eq_true Q39 | replace Q39 := of_decide_eq_false Q39)
                                                   first
                                                    | (exfalso; first | omega | (simp at *; done) | contradiction | (cases Q39; done))
                                                    | skip
                                                      refine cd_skip ?_
                                                      refine nx_block ?_
                                                      refine nx_then ?_
                                                      refine cd_region ?_
                                                      refine st_val (ro_move (v := .int _ _) rfl) ?_
                                                      refine st_val (ro_addN (b := 1) rfl rfl (by omega)) ?_
                                                      refine st_val (ro_assign (v := .int _ _) rfl) ?_
                                                      refine st_nil ?_
                                                      refine nx_cut (k + 1) ⟨(by first | rfl | (refine int_eq ?_; omega)), trivial⟩ (by (iterate 184 refine agr_cons rfl ?_); exact agr_rfl) ⟨?_, ?_⟩
                                                      · exact ⟨by omega, ((((((((hB.next E4).only O4 (by rw [hb4]; exact hB.size)).next E25).next E38).next E45).grew hG49 (fun k hk => Nat.le_trans hB38.size (own_lt ho38 hk).1)).next E57).next E87)⟩
                                                      · omega
                                            · (try first | replace Q37 := bn_t Q37 | replace Q37 := bn_f Q37)
                                              (try first | replace Q37 := bx_t Q37 | replace Q37 := bx_f Q37 | replace Q37 := be_t Q37 | replace Q37 := be_f Q37 | replace Q37 := of_decide_eq_true Q37 | replace Q37 := of_decide_eq_false Q37)
                                              first
                                               | (exfalso; first | omega | (simp at *; done) | contradiction | (cases Q37; done))
                                               | skip
                                                 refine st_gno rfl rfl ?_
                                                 refine st_gno rfl rfl ?_
                                                 refine st_gno rfl rfl ?_
                                                 refine st_gno rfl rfl ?_
                                                 refine st_gno rfl rfl ?_
                                                 refine st_gno rfl rfl ?_
                                                 refine st_unguard rfl ?_
                                                 refine st_val (ro_pickF (v := .bool _) rfl rfl) ?_
                                                 refine st_val (ro_pickF (v := .bool _) rfl rfl) ?_
                                                 refine st_nil ?_
                                                 refine nx_then ?_
                                                 refine cd_condF rfl ?_
                                                 refine cd_skip ?_
                                                 refine nx_block ?_
                                                 refine nx_then ?_
                                                 refine cd_region ?_
                                                 refine st_val (ro_move (v := .int _ _) rfl) ?_
                                                 refine st_val (ro_addN (b := 1) rfl rfl (by omega)) ?_
                                                 refine st_val (ro_assign (v := .int _ _) rfl) ?_
                                                 refine st_nil ?_
                                                 refine nx_cut (k + 1) ⟨(by first | rfl | (refine int_eq ?_; omega)), trivial⟩ (by (iterate 184 refine agr_cons rfl ?_); exact agr_rfl) ⟨?_, ?_⟩
                                                 · exact ⟨by omega, (((((((hB.next E4).only O4 (by rw [hb4]; exact hB.size)).next E25).next E38).next E45).grew hG49 (fun k hk => Nat.le_trans hB38.size (own_lt ho38 hk).1)).next E57)⟩
                                                 · omega
                 · (try first | replace Q8 := bn_t Q8 | replace Q8 := bn_f Q8)
                   (try first | replace Q8 := bx_t Q8 | replace Q8 := bx_f Q8 | replace Q8 := be_t Q8 | replace Q8 := be_f Q8 | replace Q8 := of_decide_eq_true Q8 | replace Q8 := of_decide_eq_false Q8)
                   first
                    | (exfalso; first | omega | (simp at *; done) | contradiction | (cases Q8; done))
                    | skip
                      refine st_gno rfl rfl ?_
                      refine st_gno rfl rfl ?_
                      refine st_gno rfl rfl ?_
                      refine st_unguard rfl ?_
                      refine st_val (ro_pickF (v := .bool _) rfl rfl) ?_
                      refine st_val (ro_pickF (v := .bool _) rfl rfl) ?_
                      refine st_nil ?_
                      refine nx_then ?_
                      refine cd_condF rfl ?_
                      refine cd_skip ?_
                      refine nx_then ?_
                      refine cd_seq ?_
                      refine cd_region ?_
                      refine st_val (ro_fieldAddr IntsLaws2_f26_3 rfl) ?_
                      refine st_val (ro_load IntsLaws2_g24 rfl (by first | (first | exact (P4.from_ (From.rfl_.next E25)).rd 0 rfl | exact (P4.from_ (From.rfl_.next E25)).rd 1 rfl | exact (P4.from_ (From.rfl_.next E25)).rd 2 rfl | exact (P4.from_ (From.rfl_.next E25)).rd 3 rfl))) ?_
                      have hlt38 := (P4.from_ (From.rfl_.next E25)).lt
                      have hB38 := (((hB.next E4).only O4 (by rw [hb4]; exact hB.size)).next E25)
                      refine st_call IntsLaws2_k19 (copyBytes_any A2 cb M _ (hask.rowM.from_ (((hB.next E4).only O4 (by rw [hb4]; exact hB.size)).next E25)) (by omega)) ?_
                      rintro v38 w40 ⟨A38, c38, rfl, ho38, E38⟩
                      refine st_val (ro_assign (v := .slice _ _ _) rfl) ?_
                      refine st_nil ?_
                      refine nx_then ?_
                      refine cd_seq ?_
                      refine cd_region ?_
                      refine st_val (ro_fieldAddr IntsLaws2_f26_0 rfl) ?_
                      refine st_val (ro_load IntsLaws2_g3 rfl (by first | (first | exact (P4.from_ ((From.rfl_.next E25).next E38)).rd 0 rfl | exact (P4.from_ ((From.rfl_.next E25).next E38)).rd 1 rfl | exact (P4.from_ ((From.rfl_.next E25).next E38)).rd 2 rfl | exact (P4.from_ ((From.rfl_.next E25).next E38)).rd 3 rfl))) ?_
                      refine st_val (ro_fieldAddr IntsLaws2_f26_2 rfl) ?_
                      refine st_val (ro_load IntsLaws2_g3 rfl (by first | (first | exact (P4.from_ ((From.rfl_.next E25).next E38)).rd 0 rfl | exact (P4.from_ ((From.rfl_.next E25).next E38)).rd 1 rfl | exact (P4.from_ ((From.rfl_.next E25).next E38)).rd 2 rfl | exact (P4.from_ ((From.rfl_.next E25).next E38)).rd 3 rfl))) ?_
                      refine st_val (ro_move (v := .slice _ _ _) rfl) ?_
                      refine st_call IntsLaws2_k20 (parse_any W N A38 c38 M _ (RowOf.own ho38).2 hask.lenM hask.ltM) ?_
                      rintro v45 w41 ⟨hn45, E45⟩
                      rcases hn45 with ⟨rfl, hbad⟩ | ⟨g, l, rfl, hgood, hll, hlt, hbits, hI⟩
                      · refine st_val (ro_move (v := .tuple _) rfl) ?_
                        refine st_val (ro_extract rfl rfl) ?_
                        refine st_val (ro_extract rfl rfl) ?_
                        refine st_val (ro_assign (v := .pointer _) rfl) ?_
                        refine st_val (ro_assign (v := .int _ _) rfl) ?_
                        refine st_nil ?_
                        refine nx_then ?_
                        refine cd_seq ?_
                        refine cd_region ?_
                        refine st_val (ro_move (v := .slice _ _ _) rfl) ?_
                        refine st_call IntsLaws2_k17 (spoilBytes_any _ A38 c38 M _ hask.ltM (ho38.kept_from E45) hask.lenM (by have := E38.size; have := E45.size; omega)) ?_
                        rintro v49 w42 hG49
                        replace P4 := (P4.from_ (((From.rfl_.next E25).next E38).next E45)).grown hG49 (fun k hk e => by have := (own_lt ho38 hk).1; omega)
                        (try replace hI := hI.kept hG49 (fun k hk => (own_lt ho38 hk).2))
                        refine st_nil ?_
                        refine nx_then ?_
                        refine cd_seq ?_
                        refine cd_region ?_
                        refine st_val (ro_fieldAddr IntsLaws2_f26_0 rfl) ?_
                        refine st_val (ro_load IntsLaws2_g3 rfl (by first | (first | exact (P4.from_ From.rfl_).rd 0 rfl | exact (P4.from_ From.rfl_).rd 1 rfl | exact (P4.from_ From.rfl_).rd 2 rfl | exact (P4.from_ From.rfl_).rd 3 rfl))) ?_
                        refine st_val (ro_fieldAddr IntsLaws2_f26_2 rfl) ?_
                        refine st_val (ro_load IntsLaws2_g3 rfl (by first | (first | exact (P4.from_ From.rfl_).rd 0 rfl | exact (P4.from_ From.rfl_).rd 1 rfl | exact (P4.from_ From.rfl_).rd 2 rfl | exact (P4.from_ From.rfl_).rd 3 rfl))) ?_
                        refine st_val (ro_fieldAddr IntsLaws2_f26_3 rfl) ?_
                        refine st_val (ro_load IntsLaws2_g24 rfl (by first | (first | exact (P4.from_ From.rfl_).rd 0 rfl | exact (P4.from_ From.rfl_).rd 1 rfl | exact (P4.from_ From.rfl_).rd 2 rfl | exact (P4.from_ From.rfl_).rd 3 rfl))) ?_
                        refine st_call IntsLaws2_k21 (refParse_any W N A2 cb M _ (hask.rowM.from_ ((((((hB.next E4).only O4 (by rw [hb4]; exact hB.size)).next E25).next E38).next E45).grew hG49 (fun k hk => Nat.le_trans hB38.size (own_lt ho38 hk).1))) hask.lenM hask.ltM) ?_
                        rintro v57 w43 ⟨⟨A57, l57, c57, ok57, rfl, hok57, hp57⟩, E57⟩
                        first
                          | (have hk57 : ok57 = true := hok57.2 hgood; subst hk57; obtain ⟨r57, l57l, lt57, b57⟩ := hp57 hgood)
                          | (have hk57 : ok57 = false := by rw [← Bool.not_eq_true]; exact fun h => hbad (hok57.1 h)
                             subst hk57)
                        refine st_val (ro_move (v := .tuple _) rfl) ?_
                        refine st_val (ro_extract rfl rfl) ?_
                        refine st_val (ro_extract rfl rfl) ?_
                        refine st_val (ro_assign (v := .slice _ _ _) rfl) ?_
                        refine st_val (ro_assign (v := .bool _) rfl) ?_
                        refine st_nil ?_
                        refine nx_then ?_
                        refine cd_seq ?_
                        refine cd_region ?_
                        refine st_val (ro_move (v := .bool _) rfl) ?_
                        refine st_val (ro_move (v := .int _ _) rfl) ?_
                        refine st_call IntsLaws2_k12 (num_any _ _) ?_
                        rintro v62 w44 ⟨rfl, rfl⟩
                        refine st_val (ro_eql rfl rfl) ?_
                        refine st_val (ro_neqB (by kernel_rfl) rfl rfl) ?_
                        refine st_val (ro_move (v := .bool _) rfl) ?_
                        refine st_split (t := 65) rfl (fun Q45 => ?_) (fun Q45 => ?_)
                        · (try first | replace Q45 := bn_t Q45 | replace Q45 := bn_f Q45)
                          (try first | replace Q45 := bx_t Q45 | replace Q45 := bx_f Q45 | replace Q45 := be_t Q45 | replace Q45 := be_f Q45 | replace Q45 := of_decide_eq_true Q45 | replace Q45 := of_decide_eq_false Q45)
                          first
                           | (exfalso; first | omega | (simp at *; done) | contradiction | (cases Q45; done))
                           | skip
                             refine st_gno rfl rfl ?_
                             refine st_gno rfl rfl ?_
                             refine st_gno rfl rfl ?_
                             refine st_gno rfl rfl ?_
                             refine st_val (ro_pickT (v := .bool _) rfl rfl) ?_
                             refine st_val (ro_move (v := .bool _) rfl) ?_
                             refine st_gno rfl rfl ?_
                             refine st_gno rfl rfl ?_
                             refine st_gno rfl rfl ?_
                             refine st_gund rfl ?_
                             refine st_gund rfl ?_
                             refine st_gund rfl ?_
                             refine st_gno rfl rfl ?_
                             refine st_val (ro_pickT (v := .bool _) rfl rfl) ?_
                             refine st_val (ro_move (v := .bool _) rfl) ?_
                             refine st_gno rfl rfl ?_
                             refine st_gno rfl rfl ?_
                             refine st_gund rfl ?_
                             refine st_gund rfl ?_
                             refine st_gund rfl ?_
                             refine st_gund rfl ?_
                             refine st_gund rfl ?_
                             refine st_gund rfl ?_
                             refine st_gno rfl rfl ?_
                             refine st_val (ro_pickT (v := .bool _) rfl rfl) ?_
                             refine st_nil ?_
                             refine nx_then ?_
                             refine cd_condT rfl ?_
                             refine cd_seq ?_
                             refine cd_region ?_
                             refine st_val (ro_assign (v := .bool _) rfl) ?_
                             refine st_nil ?_
                             refine nx_then ?_
                             refine cd_ret ?_
                             refine rt_block ?_
                             refine rt_then ?_
                             refine rt_then ?_
                             refine rt_block ?_
                             refine rt_then ?_
                             refine res1 (v := .bool _) rfl rfl ?_
                             exfalso; first | omega | contradiction
                        · (try first | replace Q45 := bn_t Q45 | replace Q45 := bn_f Q45)
                          (try first | replace Q45 := bx_t Q45 | replace Q45 := bx_f Q45 | replace Q45 := be_t Q45 | replace Q45 := be_f Q45 | replace Q45 := of_decide_eq_true Q45 | replace Q45 := of_decide_eq_false Q45)
                          first
                           | (exfalso; first | omega | (simp at *; done) | contradiction | (cases Q45; done))
                           | skip
                             refine st_unguard rfl ?_
                             refine st_val (ro_move (v := .bool _) rfl) ?_
                             refine st_unguard rfl ?_
                             refine st_val (ro_move (v := .pointer _) rfl) ?_
                             refine st_unguard rfl ?_
                             refine st_val (ro_neqNil IntsLaws2_p29 rfl rfl) ?_
                             refine st_unguard rfl ?_
                             refine st_val (ro_neqB (by kernel_rfl) rfl rfl) ?_
                             refine st_val (ro_pickF (v := .bool _) rfl rfl) ?_
                             refine st_val (ro_move (v := .bool _) rfl) ?_
                             refine st_split (t := 71) rfl (fun Q46 => ?_) (fun Q46 => ?_)
                             · (try first | replace Q46 := bn_t Q46 | replace Q46 := bn_f Q46)
                               (try first | replace Q46 := bx_t Q46 | replace Q46 := bx_f Q46 | replace Q46 := be_t Q46 | replace Q46 := be_f Q46 | replace Q46 := of_decide_eq_true Q46 | replace Q46 := of_decide_eq_false Q46)
                               first
                                | (exfalso; first | omega | (simp at *; done) | contradiction | (cases Q46; done))
                                | skip
                                  refine st_gno rfl rfl ?_
                                  refine st_gno rfl rfl ?_
                                  refine st_gno rfl rfl ?_
                                  refine st_gund rfl ?_
                                  refine st_gund rfl ?_
                                  refine st_gund rfl ?_
                                  refine st_gno rfl rfl ?_
                                  refine st_val (ro_pickT (v := .bool _) rfl rfl) ?_
                                  refine st_val (ro_move (v := .bool _) rfl) ?_
                                  refine st_gno rfl rfl ?_
                                  refine st_gno rfl rfl ?_
                                  refine st_gund rfl ?_
                                  refine st_gund rfl ?_
                                  refine st_gund rfl ?_
                                  refine st_gund rfl ?_
                                  refine st_gund rfl ?_
                                  refine st_gund rfl ?_
                                  refine st_gno rfl rfl ?_
                                  refine st_val (ro_pickT (v := .bool _) rfl rfl) ?_
                                  refine st_nil ?_
                                  refine nx_then ?_
                                  refine cd_condT rfl ?_
                                  refine cd_seq ?_
                                  refine cd_region ?_
                                  refine st_val (ro_assign (v := .bool _) rfl) ?_
                                  refine st_nil ?_
                                  refine nx_then ?_
                                  refine cd_ret ?_
                                  refine rt_block ?_
                                  refine rt_then ?_
                                  refine rt_then ?_
                                  refine rt_block ?_
                                  refine rt_then ?_
                                  refine res1 (v := .bool _) rfl rfl ?_
                                  exfalso; first | omega | contradiction
                             · (try first | replace Q46 := bn_t Q46 | replace Q46 := bn_f Q46)
                               (try first | replace Q46 := bx_t Q46 | replace Q46 := bx_f Q46 | replace Q46 := be_t Q46 | replace Q46 := be_f Q46 | replace Q46 := of_decide_eq_true Q46 | replace Q46 := of_decide_eq_false Q46)
                               first
                                | (exfalso; first | omega | (simp at *; done) | contradiction | (cases Q46; done))
                                | skip
                                  refine st_unguard rfl ?_
                                  refine st_val (ro_move (v := .bool _) rfl) ?_
                                  refine st_unguard rfl ?_
                                  refine st_val (ro_not rfl) ?_
                                  refine st_unguard rfl ?_
                                  refine st_val (ro_move (v := .bool _) rfl) ?_
                                  refine st_split (t := 74) rfl (fun Q47 => ?_) (fun Q47 => ?_)
                                  · (try first | replace Q47 := bn_t Q47 | replace Q47 := bn_f Q47)
                                    (try first | replace Q47 := bx_t Q47 | replace Q47 := bx_f Q47 | replace Q47 := be_t Q47 | replace Q47 := be_f Q47 | replace Q47 := of_decide_eq_true Q47 | replace Q47 := of_decide_eq_false Q47)
                                    first
                                     | (exfalso; first | omega | (simp at *; done) | contradiction | (cases Q47; done))
                                     | skip
                                       refine st_unguard rfl ?_
                                       refine st_val (ro_move (v := .int _ _) rfl) ?_
                                       refine st_unguard rfl ?_
                                       refine st_call IntsLaws2_k12 (num_any _ _) ?_
                                       rintro v76 w48 ⟨rfl, rfl⟩
                                       refine st_unguard rfl ?_
                                       refine st_val (ro_neq rfl rfl) ?_
                                       refine st_unguard rfl ?_
                                       refine st_val (ro_pickT (v := .bool _) rfl rfl) ?_
                                       refine st_val (ro_pickF (v := .bool _) rfl rfl) ?_
                                       refine st_val (ro_move (v := .bool _) rfl) ?_
                                       refine st_split (t := 80) rfl (fun Q49 => ?_) (fun Q49 => ?_)
                                       · (try first | replace Q49 := bn_t Q49 | replace Q49 := bn_f Q49)
                                         (try first | replace Q49 := bx_t Q49 | replace Q49 := bx_f Q49 | replace Q49 := be_t Q49 | replace Q49 := be_f Q49 | replace Q49 := of_decide_eq_true Q49 | replace Q49 := of_decide_eq_false Q49)
                                         first
                                          | (exfalso; first | omega | (simp at *; done) | contradiction | (cases Q49; done))
                                          | skip
                                            refine st_gno rfl rfl ?_
                                            refine st_gno rfl rfl ?_
                                            refine st_gund rfl ?_
                                            refine st_gund rfl ?_
                                            refine st_gund rfl ?_
                                            refine st_gund rfl ?_
                                            refine st_gund rfl ?_
                                            refine st_gund rfl ?_
                                            refine st_gno rfl rfl ?_
                                            refine st_val (ro_pickT (v := .bool _) rfl rfl) ?_
                                            refine st_nil ?_
                                            refine nx_then ?_
                                            refine cd_condT rfl ?_
                                            refine cd_seq ?_
                                            refine cd_region ?_
                                            refine st_val (ro_assign (v := .bool _) rfl) ?_
                                            refine st_nil ?_
                                            refine nx_then ?_
                                            refine cd_ret ?_
                                            refine rt_block ?_
                                            refine rt_then ?_
                                            refine rt_then ?_
                                            refine rt_block ?_
                                            refine rt_then ?_
                                            refine res1 (v := .bool _) rfl rfl ?_
                                            exfalso; first | omega | contradiction
                                       · (try first | replace Q49 := bn_t Q49 | replace Q49 := bn_f Q49)
                                         (try first | replace Q49 := bx_t Q49 | replace Q49 := bx_f Q49 | replace Q49 := be_t Q49 | replace Q49 := be_f Q49 | replace Q49 := of_decide_eq_true Q49 | replace Q49 := of_decide_eq_false Q49)
                                         first
                                          | (exfalso; first | omega | (simp at *; done) | contradiction | (cases Q49; done))
                                          | skip
                                            refine st_unguard rfl ?_
                                            refine st_val (ro_move (v := .bool _) rfl) ?_
                                            refine st_unguard rfl ?_
                                            refine st_val (ro_move (v := .bool _) rfl) ?_
                                            refine st_split (t := 82) rfl (fun Q50 => ?_) (fun Q50 => ?_)
                                            · (try first | replace Q50 := bn_t Q50 | replace Q50 := bn_f Q50)
                                              (try first | replace Q50 := bx_t Q50 | replace Q50 := bx_f Q50 | replace Q50 := be_t Q50 | replace Q50 := be_f Q50 | replace Q50 := of_decide_eq_true Q50 | replace Q50 := of_decide_eq_false Q50)
                                              first
                                               | (exfalso; first | omega | (simp at *; done) | contradiction | (cases Q50; done))
                                               | skip
                                                 refine st_unguard rfl ?_
                                                 refine st_val (ro_move (v := .pointer _) rfl) ?_
                                                 refine st_unguard rfl ?_
                                                 refine st_val (ro_fieldAddr IntsLaws2_f26_0 rfl) ?_
                                                 refine st_unguard rfl ?_
                                                 refine st_val (ro_load IntsLaws2_g3 rfl (by first | (first | exact (P4.from_ (From.rfl_.next E57)).rd 0 rfl | exact (P4.from_ (From.rfl_.next E57)).rd 1 rfl | exact (P4.from_ (From.rfl_.next E57)).rd 2 rfl | exact (P4.from_ (From.rfl_.next E57)).rd 3 rfl))) ?_
                                                 refine st_unguard rfl ?_
                                                 refine st_val (ro_move (v := .slice _ _ _) rfl) ?_
                                                 refine st_unguard rfl ?_
                                                 refine st_call IntsLaws2_k13 (same_eq _ g W.toNat W A57 c57 l l57 _ (hI.from_ (From.rfl_.next E57)) (r57.from_ From.rfl_) (by have := hgood.2.2.2.1; omega) (by have := hgood.1; omega) (nums_ext (by omega) hlt lt57 (fun t ht => by rw [hll] at ht; rw [hbits t ht, b57 t ht]))) ?_
                                                 rintro v87 w51 ⟨rfl, E87⟩
                                                 refine st_unguard rfl ?_
                                                 refine st_val (ro_not rfl) ?_
                                                 refine st_unguard rfl ?_
                                                 refine st_val (ro_pickT (v := .bool _) rfl rfl) ?_
                                                 refine st_val (ro_pickF (v := .bool _) rfl rfl) ?_
                                                 refine st_nil ?_
                                                 refine nx_then ?_
                                                 refine cd_cond rfl (fun Q52 => ?_) (fun Q52 => ?_)
                                                 · (try first | replace Q52 := bn_t Q52 | replace Q52 := bn_f Q52)
                                                   (try first | replace Q52 := bx_t Q52 | replace Q52 := bx_f Q52 | replace Q52 := be_t Q52 | replace Q52 := be_f Q52 | replace Q52 := of_decide_eq_true Q52 | replace Q52 := of_decide_eq_false Q52)
                                                   first
                                                    | (exfalso; first | omega | (simp at *; done) | contradiction | (cases Q52; done))
                                                    | skip
                                                      refine cd_seq ?_
                                                      refine cd_region ?_
                                                      refine st_val (ro_assign (v := .bool _) rfl) ?_
                                                      refine st_nil ?_
                                                      refine nx_then ?_
                                                      refine cd_ret ?_
                                                      refine rt_block ?_
                                                      refine rt_then ?_
                                                      refine rt_then ?_
                                                      refine rt_block ?_
                                                      refine rt_then ?_
                                                      refine res1 (v := .bool _) rfl rfl ?_
                                                      exfalso; first | omega | contradiction
                                                 · (try first | replace Q52 := bn_t Q52 | replace Q52 := bn_f Q52)
                                                   (try first | replace Q52 := bx_t Q52 | replace Q52 := bx_f Q52 | replace Q52 := be_t Q52 | replace Q52 := be_f Q52 | replace Q52 := of_decide_eq_true Q52 | replace Q52 := of_decide_eq_false Q52)
                                                   first
                                                    | (exfalso; first | omega | (simp at *; done) | contradiction | (cases Q52; done))
                                                    | skip
                                                      refine cd_skip ?_
                                                      refine nx_block ?_
                                                      refine nx_then ?_
                                                      refine cd_region ?_
                                                      refine st_val (ro_move (v := .int _ _) rfl) ?_
                                                      refine st_val (ro_addN (b := 1) rfl rfl (by omega)) ?_
                                                      refine st_val (ro_assign (v := .int _ _) rfl) ?_
                                                      refine st_nil ?_
                                                      refine nx_cut (k + 1) ⟨(by first | rfl | (refine int_eq ?_; omega)), trivial⟩ (by (iterate 185 refine agr_cons rfl ?_); exact agr_rfl) ⟨?_, ?_⟩
                                                      · exact ⟨by omega, ((((((((hB.next E4).only O4 (by rw [hb4]; exact hB.size)).next E25).next E38).next E45).grew hG49 (fun k hk => Nat.le_trans hB38.size (own_lt ho38 hk).1)).next E57).next E87)⟩
                                                      · omega
                                            · (try first | replace Q50 := bn_t Q50 | replace Q50 := bn_f Q50)
                                              (try first | replace Q50 := bx_t Q50 | replace Q50 := bx_f Q50 | replace Q50 := be_t Q50 | replace Q50 := be_f Q50 | replace Q50 := of_decide_eq_true Q50 | replace Q50 := of_decide_eq_false Q50)
                                              first
                                               | (exfalso; first | omega | (simp at *; done) | contradiction | (cases Q50; done))
                                               | skip
                                                 refine st_gno rfl rfl ?_
                                                 refine st_gno rfl rfl ?_
                                                 refine st_gno rfl rfl ?_
                                                 refine st_gno rfl rfl ?_
                                                 refine st_gno rfl rfl ?_
                                                 refine st_gno rfl rfl ?_
                                                 refine st_unguard rfl ?_
                                                 refine st_val (ro_pickF (v := .bool _) rfl rfl) ?_
                                                 refine st_val (ro_pickF (v := .bool _) rfl rfl) ?_
                                                 refine st_nil ?_
                                                 refine nx_then ?_
                                                 refine cd_condF rfl ?_
                                                 refine cd_skip ?_
                                                 refine nx_block ?_
                                                 refine nx_then ?_
                                                 refine cd_region ?_
                                                 refine st_val (ro_move (v := .int _ _) rfl) ?_
                                                 refine st_val (ro_addN (b := 1) rfl rfl (by omega)) ?_
                                                 refine st_val (ro_assign (v := .int _ _) rfl) ?_
                                                 refine st_nil ?_
                                                 refine nx_cut (k + 1) ⟨(by first | rfl | (refine int_eq ?_; omega)), trivial⟩ (by (iterate 185 refine agr_cons rfl ?_); exact agr_rfl) ⟨?_, ?_⟩
                                                 · exact ⟨by omega, (((((((hB.next E4).only O4 (by rw [hb4]; exact hB.size)).next E25).next E38).next E45).grew hG49 (fun k hk => Nat.le_trans hB38.size (own_lt ho38 hk).1)).next E57)⟩
                                                 · omega
                                  · (try first | replace Q47 := bn_t Q47 | replace Q47 := bn_f Q47)
                                    (try first | replace Q47 := bx_t Q47 | replace Q47 := bx_f Q47 | replace Q47 := be_t Q47 | replace Q47 := be_f Q47 | replace Q47 := of_decide_eq_true Q47 | replace Q47 := of_decide_eq_false Q47)
                                    first
                                     | (exfalso; first | omega | (simp at *; done) | contradiction | (cases Q47; done))
                                     | skip
                                       refine st_gno rfl rfl ?_
                                       refine st_gno rfl rfl ?_
                                       refine st_gno rfl rfl ?_
                                       refine st_unguard rfl ?_
                                       refine st_val (ro_pickF (v := .bool _) rfl rfl) ?_
                                       refine st_val (ro_pickF (v := .bool _) rfl rfl) ?_
                                       refine st_val (ro_move (v := .bool _) rfl) ?_
                                       refine st_unguard rfl ?_
                                       refine st_val (ro_move (v := .bool _) rfl) ?_
                                       refine st_unguard rfl ?_
                                       refine st_val (ro_move (v := .bool _) rfl) ?_
                                       refine st_split (t := 82) rfl (fun Q53 => ?_) (fun Q53 => ?_)
                                       · (try first | replace Q53 := bn_t Q53 | replace Q53 := bn_f Q53)
                                         (try first | replace Q53 := bx_t Q53 | replace Q53 := bx_f Q53 | replace Q53 := be_t Q53 | replace Q53 := be_f Q53 | replace Q53 := of_decide_eq_true Q53 | replace Q53 := of_decide_eq_false Q53)
                                         first
                                          | (exfalso; first | omega | (simp at *; done) | contradiction | (cases Q53; done))
                                          | skip
                                            refine st_unguard rfl ?_
                                            refine st_val (ro_move (v := .pointer _) rfl) ?_
                                            refine st_unguard rfl ?_
                                            refine st_val (ro_fieldAddr IntsLaws2_f26_0 rfl) ?_
                                            refine st_unguard rfl ?_
                                            refine st_val (ro_load IntsLaws2_g3 rfl (by first | (first | exact (P4.from_ (From.rfl_.next E57)).rd 0 rfl | exact (P4.from_ (From.rfl_.next E57)).rd 1 rfl | exact (P4.from_ (From.rfl_.next E57)).rd 2 rfl | exact (P4.from_ (From.rfl_.next E57)).rd 3 rfl))) ?_
                                            refine st_unguard rfl ?_
                                            refine st_val (ro_move (v := .slice _ _ _) rfl) ?_
                                            refine st_unguard rfl ?_
                                            refine st_call IntsLaws2_k13 (same_eq _ g W.toNat W A57 c57 l l57 _ (hI.from_ (From.rfl_.next E57)) (r57.from_ From.rfl_) (by have := hgood.2.2.2.1; omega) (by have := hgood.1; omega) (nums_ext (by omega) hlt lt57 (fun t ht => by rw [hll] at ht; rw [hbits t ht, b57 t ht]))) ?_
                                            rintro v87 w54 ⟨rfl, E87⟩
                                            refine st_unguard rfl ?_
                                            refine st_val (ro_not rfl) ?_
                                            refine st_unguard rfl ?_
                                            refine st_val (ro_pickT (v := .bool _) rfl rfl) ?_
                                            refine st_val (ro_pickF (v := .bool _) rfl rfl) ?_
                                            refine st_nil ?_
                                            refine nx_then ?_
                                            refine cd_cond rfl (fun Q55 => ?_) (fun Q55 => ?_)
                                            · (try first | replace Q55 := bn_t Q55 | replace Q55 := bn_f Q55)
                                              (try first | replace Q55 := bx_t Q55 | replace Q55 := bx_f Q55 | replace Q55 := be_t Q55 | replace Q55 := be_f Q55 | replace Q55 := of_decide_eq_true Q55 | replace Q55 := of_decide_eq_false Q55)
                                              first
                                               | (exfalso; first | omega | (simp at *; done) | contradiction | (cases Q55; done))
                                               | skip
                                                 refine cd_seq ?_
                                                 refine cd_region ?_
                                                 refine st_val (ro_assign (v := .bool _) rfl) ?_
                                                 refine st_nil ?_
                                                 refine nx_then ?_
                                                 refine cd_ret ?_
                                                 refine rt_block ?_
                                                 refine rt_then ?_
                                                 refine rt_then ?_
                                                 refine rt_block ?_
                                                 refine rt_then ?_
                                                 refine res1 (v := .bool _) rfl rfl ?_
                                                 exfalso; first | omega | contradiction
                                            · (try first | replace Q55 := bn_t Q55 | replace Q55 := bn_f Q55)
                                              (try first | replace Q55 := bx_t Q55 | replace Q55 := bx_f Q55 | replace Q55 := be_t Q55 | replace Q55 := be_f Q55 | replace Q55 := of_decide_eq_true Q55 | replace Q55 := of_decide_eq_false Q55)
                                              first
                                               | (exfalso; first | omega | (simp at *; done) | contradiction | (cases Q55; done))
                                               | skip
                                                 refine cd_skip ?_
                                                 refine nx_block ?_
                                                 refine nx_then ?_
                                                 refine cd_region ?_
                                                 refine st_val (ro_move (v := .int _ _) rfl) ?_
                                                 refine st_val (ro_addN (b := 1) rfl rfl (by omega)) ?_
                                                 refine st_val (ro_assign (v := .int _ _) rfl) ?_
                                                 refine st_nil ?_
                                                 refine nx_cut (k + 1) ⟨(by first | rfl | (refine int_eq ?_; omega)), trivial⟩ (by (iterate 184 refine agr_cons rfl ?_); exact agr_rfl) ⟨?_, ?_⟩
                                                 · exact ⟨by omega, ((((((((hB.next E4).only O4 (by rw [hb4]; exact hB.size)).next E25).next E38).next E45).grew hG49 (fun k hk => Nat.le_trans hB38.size (own_lt ho38 hk).1)).next E57).next E87)⟩
                                                 · omega
                                       · (try first | replace Q53 := bn_t Q53 | replace Q53 := bn_f Q53)
                                         (try first | replace Q53 := bx_t Q53 | replace Q53 := bx_f Q53 | replace Q53 := be_t Q53 | replace Q53 := be_f Q53 | replace Q53 := of_decide_eq_true Q53 | replace Q53 := of_decide_eq_false Q53)
                                         first
                                          | (exfalso; first | omega | (simp at *; done) | contradiction | (cases Q53; done))
                                          | skip
                                            refine st_gno rfl rfl ?_
                                            refine st_gno rfl rfl ?_
                                            refine st_gno rfl rfl ?_
                                            refine st_gno rfl rfl ?_
                                            refine st_gno rfl rfl ?_
                                            refine st_gno rfl rfl ?_
                                            refine st_unguard rfl ?_
                                            refine st_val (ro_pickF (v := .bool _) rfl rfl) ?_
                                            refine st_val (ro_pickF (v := .bool _) rfl rfl) ?_
                                            refine st_nil ?_
                                            refine nx_then ?_
                                            refine cd_condF rfl ?_
                                            refine cd_skip ?_
                                            refine nx_block ?_
                                            refine nx_then ?_
                                            refine cd_region ?_
                                            refine st_val (ro_move (v := .int _ _) rfl) ?_
                                            refine st_val (ro_addN (b := 1) rfl rfl (by omega)) ?_
                                            refine st_val (ro_assign (v := .int _ _) rfl) ?_
                                            refine st_nil ?_
                                            refine nx_cut (k + 1) ⟨(by first | rfl | (refine int_eq ?_; omega)), trivial⟩ (by (iterate 184 refine agr_cons rfl ?_); exact agr_rfl) ⟨?_, ?_⟩
                                            · exact ⟨by omega, (((((((hB.next E4).only O4 (by rw [hb4]; exact hB.size)).next E25).next E38).next E45).grew hG49 (fun k hk => Nat.le_trans hB38.size (own_lt ho38 hk).1)).next E57)⟩
                                            · omega
                      · refine st_val (ro_move (v := .tuple _) rfl) ?_
                        refine st_val (ro_extract rfl rfl) ?_
                        refine st_val (ro_extract rfl rfl) ?_
                        refine st_val (ro_assign (v := .pointer _) rfl) ?_
                        refine st_val (ro_assign (v := .int _ _) rfl) ?_
                        refine st_nil ?_
                        refine nx_then ?_
                        refine cd_seq ?_
                        refine cd_region ?_
                        refine st_val (ro_move (v := .slice _ _ _) rfl) ?_
                        refine st_call IntsLaws2_k17 (spoilBytes_any _ A38 c38 M _ hask.ltM (ho38.kept_from E45) hask.lenM (by have := E38.size; have := E45.size; omega)) ?_
                        rintro v49 w56 hG49
                        replace P4 := (P4.from_ (((From.rfl_.next E25).next E38).next E45)).grown hG49 (fun k hk e => by have := (own_lt ho38 hk).1; omega)
                        (try replace hI := hI.kept hG49 (fun k hk => (own_lt ho38 hk).2))
                        refine st_nil ?_
                        refine nx_then ?_
                        refine cd_seq ?_
                        refine cd_region ?_
                        refine st_val (ro_fieldAddr IntsLaws2_f26_0 rfl) ?_
                        refine st_val (ro_load IntsLaws2_g3 rfl (by first | (first | exact (P4.from_ From.rfl_).rd 0 rfl | exact (P4.from_ From.rfl_).rd 1 rfl | exact (P4.from_ From.rfl_).rd 2 rfl | exact (P4.from_ From.rfl_).rd 3 rfl))) ?_
                        refine st_val (ro_fieldAddr IntsLaws2_f26_2 rfl) ?_
                        refine st_val (ro_load IntsLaws2_g3 rfl (by first | (first | exact (P4.from_ From.rfl_).rd 0 rfl | exact (P4.from_ From.rfl_).rd 1 rfl | exact (P4.from_ From.rfl_).rd 2 rfl | exact (P4.from_ From.rfl_).rd 3 rfl))) ?_
                        refine st_val (ro_fieldAddr IntsLaws2_f26_3 rfl) ?_
                        refine st_val (ro_load IntsLaws2_g24 rfl (by first | (first | exact (P4.from_ From.rfl_).rd 0 rfl | exact (P4.from_ From.rfl_).rd 1 rfl | exact (P4.from_ From.rfl_).rd 2 rfl | exact (P4.from_ From.rfl_).rd 3 rfl))) ?_
                        refine st_call IntsLaws2_k21 (refParse_any W N A2 cb M _ (hask.rowM.from_ ((((((hB.next E4).only O4 (by rw [hb4]; exact hB.size)).next E25).next E38).next E45).grew hG49 (fun k hk => Nat.le_trans hB38.size (own_lt ho38 hk).1))) hask.lenM hask.ltM) ?_
                        rintro v57 w57 ⟨⟨A57, l57, c57, ok57, rfl, hok57, hp57⟩, E57⟩
                        first
                          | (have hk57 : ok57 = true := hok57.2 hgood; subst hk57; obtain ⟨r57, l57l, lt57, b57⟩ := hp57 hgood)
                          | (have hk57 : ok57 = false := by rw [← Bool.not_eq_true]; exact fun h => hbad (hok57.1 h)
                             subst hk57)
                        refine st_val (ro_move (v := .tuple _) rfl) ?_
                        refine st_val (ro_extract rfl rfl) ?_
                        refine st_val (ro_extract rfl rfl) ?_
                        refine st_val (ro_assign (v := .slice _ _ _) rfl) ?_
                        refine st_val (ro_assign (v := .bool _) rfl) ?_
                        refine st_nil ?_
                        refine nx_then ?_
                        refine cd_seq ?_
                        refine cd_region ?_
                        refine st_val (ro_move (v := .bool _) rfl) ?_
                        refine st_val (ro_move (v := .int _ _) rfl) ?_
                        refine st_call IntsLaws2_k12 (num_any _ _) ?_
                        rintro v62 w58 ⟨rfl, rfl⟩
                        refine st_val (ro_eql rfl rfl) ?_
                        refine st_val (ro_neqB (by kernel_rfl) rfl rfl) ?_
                        refine st_val (ro_move (v := .bool _) rfl) ?_
                        refine st_split (t := 65) rfl (fun Q59 => ?_) (fun Q59 => ?_)
                        · (try first | replace Q59 := bn_t Q59 | replace Q59 := bn_f Q59)
                          (try first | replace Q59 := bx_t Q59 | replace Q59 := bx_f Q59 | replace Q59 := be_t Q59 | replace Q59 := be_f Q59 | replace Q59 := of_decide_eq_true Q59 | replace Q59 := of_decide_eq_false Q59)
                          first
                           | (exfalso; first | omega | (simp at *; done) | contradiction | (cases Q59; done))
                           | skip
                             refine st_gno rfl rfl ?_
                             refine st_gno rfl rfl ?_
                             refine st_gno rfl rfl ?_
                             refine st_gno rfl rfl ?_
                             refine st_val (ro_pickT (v := .bool _) rfl rfl) ?_
                             refine st_val (ro_move (v := .bool _) rfl) ?_
                             refine st_gno rfl rfl ?_
                             refine st_gno rfl rfl ?_
                             refine st_gno rfl rfl ?_
                             refine st_gund rfl ?_
                             refine st_gund rfl ?_
                             refine st_gund rfl ?_
                             refine st_gno rfl rfl ?_
                             refine st_val (ro_pickT (v := .bool _) rfl rfl) ?_
                             refine st_val (ro_move (v := .bool _) rfl) ?_
                             refine st_gno rfl rfl ?_
                             refine st_gno rfl rfl ?_
                             refine st_gund rfl ?_
                             refine st_gund rfl ?_
                             refine st_gund rfl ?_
                             refine st_gund rfl ?_
                             refine st_gund rfl ?_
                             refine st_gund rfl ?_
                             refine st_gno rfl rfl ?_
                             refine st_val (ro_pickT (v := .bool _) rfl rfl) ?_
                             refine st_nil ?_
                             refine nx_then ?_
                             refine cd_condT rfl ?_
                             refine cd_seq ?_
                             refine cd_region ?_
                             refine st_val (ro_assign (v := .bool _) rfl) ?_
                             refine st_nil ?_
                             refine nx_then ?_
                             refine cd_ret ?_
                             refine rt_block ?_
                             refine rt_then ?_
                             refine rt_then ?_
                             refine rt_block ?_
                             refine rt_then ?_
                             refine res1 (v := .bool _) rfl rfl ?_
                             exfalso; first | omega | contradiction
                        · (try first | replace Q59 := bn_t Q59 | replace Q59 := bn_f Q59)
                          (try first | replace Q59 := bx_t Q59 | replace Q59 := bx_f Q59 | replace Q59 := be_t Q59 | replace Q59 := be_f Q59 | replace Q59 := of_decide_eq_true Q59 | replace Q59 := of_decide_eq_false Q59)
                          first
                           | (exfalso; first | omega | (simp at *; done) | contradiction | (cases Q59; done))
                           | skip
                             refine st_unguard rfl ?_
                             refine st_val (ro_move (v := .bool _) rfl) ?_
                             refine st_unguard rfl ?_
                             refine st_val (ro_move (v := .pointer _) rfl) ?_
                             refine st_unguard rfl ?_
                             refine st_val (ro_neqNil IntsLaws2_p29 rfl rfl) ?_
                             refine st_unguard rfl ?_
                             refine st_val (ro_neqB (by kernel_rfl) rfl rfl) ?_
                             refine st_val (ro_pickF (v := .bool _) rfl rfl) ?_
                             refine st_val (ro_move (v := .bool _) rfl) ?_
                             refine st_split (t := 71) rfl (fun Q60 => ?_) (fun Q60 => ?_)
                             · (try first | replace Q60 := bn_t Q60 | replace Q60 := bn_f Q60)
                               (try first | replace Q60 := bx_t Q60 | replace Q60 := bx_f Q60 | replace Q60 := be_t Q60 | replace Q60 := be_f Q60 | replace Q60 := of_decide_eq_true Q60 | replace Q60 := of_decide_eq_false Q60)
                               first
                                | (exfalso; first | omega | (simp at *; done) | contradiction | (cases Q60; done))
                                | skip
                                  refine st_gno rfl rfl ?_
                                  refine st_gno rfl rfl ?_
                                  refine st_gno rfl rfl ?_
                                  refine st_gund rfl ?_
                                  refine st_gund rfl ?_
                                  refine st_gund rfl ?_
                                  refine st_gno rfl rfl ?_
                                  refine st_val (ro_pickT (v := .bool _) rfl rfl) ?_
                                  refine st_val (ro_move (v := .bool _) rfl) ?_
                                  refine st_gno rfl rfl ?_
                                  refine st_gno rfl rfl ?_
                                  refine st_gund rfl ?_
                                  refine st_gund rfl ?_
                                  refine st_gund rfl ?_
                                  refine st_gund rfl ?_
                                  refine st_gund rfl ?_
                                  refine st_gund rfl ?_
                                  refine st_gno rfl rfl ?_
                                  refine st_val (ro_pickT (v := .bool _) rfl rfl) ?_
                                  refine st_nil ?_
                                  refine nx_then ?_
                                  refine cd_condT rfl ?_
                                  refine cd_seq ?_
                                  refine cd_region ?_
                                  refine st_val (ro_assign (v := .bool _) rfl) ?_
                                  refine st_nil ?_
                                  refine nx_then ?_
                                  refine cd_ret ?_
                                  refine rt_block ?_
                                  refine rt_then ?_
                                  refine rt_then ?_
                                  refine rt_block ?_
                                  refine rt_then ?_
                                  refine res1 (v := .bool _) rfl rfl ?_
                                  exfalso; first | omega | contradiction
                             · (try first | replace Q60 := bn_t Q60 | replace Q60 := bn_f Q60)
                               (try first | replace Q60 := bx_t Q60 | replace Q60 := bx_f Q60 | replace Q60 := be_t Q60 | replace Q60 := be_f Q60 | replace Q60 := of_decide_eq_true Q60 | replace Q60 := of_decide_eq_false Q60)
                               first
                                | (exfalso; first | omega | (simp at *; done) | contradiction | (cases Q60; done))
                                | skip
                                  refine st_unguard rfl ?_
                                  refine st_val (ro_move (v := .bool _) rfl) ?_
                                  refine st_unguard rfl ?_
                                  refine st_val (ro_not rfl) ?_
                                  refine st_unguard rfl ?_
                                  refine st_val (ro_move (v := .bool _) rfl) ?_
                                  refine st_split (t := 74) rfl (fun Q61 => ?_) (fun Q61 => ?_)
                                  · (try first | replace Q61 := bn_t Q61 | replace Q61 := bn_f Q61)
                                    (try first | replace Q61 := bx_t Q61 | replace Q61 := bx_f Q61 | replace Q61 := be_t Q61 | replace Q61 := be_f Q61 | replace Q61 := of_decide_eq_true Q61 | replace Q61 := of_decide_eq_false Q61)
                                    first
                                     | (exfalso; first | omega | (simp at *; done) | contradiction | (cases Q61; done))
                                     | skip
                                       refine st_unguard rfl ?_
                                       refine st_val (ro_move (v := .int _ _) rfl) ?_
                                       refine st_unguard rfl ?_
                                       refine st_call IntsLaws2_k12 (num_any _ _) ?_
                                       rintro v76 w62 ⟨rfl, rfl⟩
                                       refine st_unguard rfl ?_
                                       refine st_val (ro_neq rfl rfl) ?_
                                       refine st_unguard rfl ?_
                                       refine st_val (ro_pickT (v := .bool _) rfl rfl) ?_
                                       refine st_val (ro_pickF (v := .bool _) rfl rfl) ?_
                                       refine st_val (ro_move (v := .bool _) rfl) ?_
                                       refine st_split (t := 80) rfl (fun Q63 => ?_) (fun Q63 => ?_)
                                       · (try first | replace Q63 := bn_t Q63 | replace Q63 := bn_f Q63)
                                         (try first | replace Q63 := bx_t Q63 | replace Q63 := bx_f Q63 | replace Q63 := be_t Q63 | replace Q63 := be_f Q63 | replace Q63 := of_decide_eq_true Q63 | replace Q63 := of_decide_eq_false Q63)
                                         first
                                          | (exfalso; first | omega | (simp at *; done) | contradiction | (cases Q63; done))
                                          | skip
                                            refine st_gno rfl rfl ?_
                                            refine st_gno rfl rfl ?_
                                            refine st_gund rfl ?_
                                            refine st_gund rfl ?_
                                            refine st_gund rfl ?_
                                            refine st_gund rfl ?_
                                            refine st_gund rfl ?_
                                            refine st_gund rfl ?_
                                            refine st_gno rfl rfl ?_
                                            refine st_val (ro_pickT (v := .bool _) rfl rfl) ?_
                                            refine st_nil ?_
                                            refine nx_then ?_
                                            refine cd_condT rfl ?_
                                            refine cd_seq ?_
                                            refine cd_region ?_
                                            refine st_val (ro_assign (v := .bool _) rfl) ?_
                                            refine st_nil ?_
                                            refine nx_then ?_
                                            refine cd_ret ?_
                                            refine rt_block ?_
                                            refine rt_then ?_
                                            refine rt_then ?_
                                            refine rt_block ?_
                                            refine rt_then ?_
                                            refine res1 (v := .bool _) rfl rfl ?_
                                            exfalso; first | omega | contradiction
                                       · (try first | replace Q63 := bn_t Q63 | replace Q63 := bn_f Q63)
                                         (try first | replace Q63 := bx_t Q63 | replace Q63 := bx_f Q63 | replace Q63 := be_t Q63 | replace Q63 := be_f Q63 | replace Q63 := of_decide_eq_true Q63 | replace Q63 := of_decide_eq_false Q63)
                                         first
                                          | (exfalso; first | omega | (simp at *; done) | contradiction | (cases Q63; done))
                                          | skip
                                            refine st_unguard rfl ?_
                                            refine st_val (ro_move (v := .bool _) rfl) ?_
                                            refine st_unguard rfl ?_
                                            refine st_val (ro_move (v := .bool _) rfl) ?_
                                            refine st_split (t := 82) rfl (fun Q64 => ?_) (fun Q64 => ?_)
                                            · (try first | replace Q64 := bn_t Q64 | replace Q64 := bn_f Q64)
                                              (try first | replace Q64 := bx_t Q64 | replace Q64 := bx_f Q64 | replace Q64 := be_t Q64 | replace Q64 := be_f Q64 | replace Q64 := of_decide_eq_true Q64 | replace Q64 := of_decide_eq_false Q64)
                                              first
                                               | (exfalso; first | omega | (simp at *; done) | contradiction | (cases Q64; done))
                                               | skip
                                                 refine st_unguard rfl ?_
                                                 refine st_val (ro_move (v := .pointer _) rfl) ?_
                                                 refine st_unguard rfl ?_
                                                 refine st_val (ro_fieldAddr IntsLaws2_f26_0 rfl) ?_
                                                 refine st_unguard rfl ?_
                                                 refine st_val (ro_load IntsLaws2_g3 rfl (by first | (first | exact (P4.from_ (From.rfl_.next E57)).rd 0 rfl | exact (P4.from_ (From.rfl_.next E57)).rd 1 rfl | exact (P4.from_ (From.rfl_.next E57)).rd 2 rfl | exact (P4.from_ (From.rfl_.next E57)).rd 3 rfl))) ?_
                                                 refine st_unguard rfl ?_
                                                 refine st_val (ro_move (v := .slice _ _ _) rfl) ?_
                                                 refine st_unguard rfl ?_
                                                 refine st_call IntsLaws2_k13 (same_eq _ g W.toNat W A57 c57 l l57 _ (hI.from_ (From.rfl_.next E57)) (r57.from_ From.rfl_) (by have := hgood.2.2.2.1; omega) (by have := hgood.1; omega) (nums_ext (by omega) hlt lt57 (fun t ht => by rw [hll] at ht; rw [hbits t ht, b57 t ht]))) ?_
                                                 rintro v87 w65 ⟨rfl, E87⟩
                                                 refine st_unguard rfl ?_
                                                 refine st_val (ro_not rfl) ?_
                                                 refine st_unguard rfl ?_
                                                 refine st_val (ro_pickT (v := .bool _) rfl rfl) ?_
                                                 refine st_val (ro_pickF (v := .bool _) rfl rfl) ?_
                                                 refine st_nil ?_
                                                 refine nx_then ?_
                                                 refine cd_cond rfl (fun Q66 => ?_) (fun Q66 => ?_)
                                                 · (try first | replace Q66 := bn_t Q66 | replace Q66 := bn_f Q66)
                                                   (try first | replace Q66 := bx_t Q66 | replace Q66 := bx_f Q66 | replace Q66 := be_t Q66 | replace Q66 := be_f Q66 | replace Q66 := of_decide_eq_true Q66 | replace Q66 := of_decide_eq_false Q66)
                                                   first
                                                    | (exfalso; first | omega | (simp at *; done) | contradiction | (cases Q66; done))
                                                    | skip
                                                      refine cd_seq ?_
                                                      refine cd_region ?_
                                                      refine st_val (ro_assign (v := .bool _) rfl) ?_
                                                      refine st_nil ?_
                                                      refine nx_then ?_
                                                      refine cd_ret ?_
                                                      refine rt_block ?_
                                                      refine rt_then ?_
                                                      refine rt_then ?_
                                                      refine rt_block ?_
                                                      refine rt_then ?_
                                                      refine res1 (v := .bool _) rfl rfl ?_
                                                      exfalso; first | omega | contradiction
                                                 · (try first | replace Q66 := bn_t Q66 | replace Q66 := bn_f Q66)
                                                   (try first | replace Q66 := bx_t Q66 | replace Q66 := bx_f Q66 | replace Q66 := be_t Q66 | replace Q66 := be_f Q66 | replace Q66 := of_decide_eq_true Q66 | replace Q66 := of_decide_eq_false Q66)
                                                   first
                                                    | (exfalso; first | omega | (simp at *; done) | contradiction | (cases Q66; done))
                                                    | skip
                                                      refine cd_skip ?_
                                                      refine nx_block ?_
                                                      refine nx_then ?_
                                                      refine cd_region ?_
                                                      refine st_val (ro_move (v := .int _ _) rfl) ?_
                                                      refine st_val (ro_addN (b := 1) rfl rfl (by omega)) ?_
                                                      refine st_val (ro_assign (v := .int _ _) rfl) ?_
                                                      refine st_nil ?_
                                                      refine nx_cut (k + 1) ⟨(by first | rfl | (refine int_eq ?_; omega)), trivial⟩ (by (iterate 185 refine agr_cons rfl ?_); exact agr_rfl) ⟨?_, ?_⟩
                                                      · exact ⟨by omega, ((((((((hB.next E4).only O4 (by rw [hb4]; exact hB.size)).next E25).next E38).next E45).grew hG49 (fun k hk => Nat.le_trans hB38.size (own_lt ho38 hk).1)).next E57).next E87)⟩
                                                      · omega
                                            · (try first | replace Q64 := bn_t Q64 | replace Q64 := bn_f Q64)
                                              (try first | replace Q64 := bx_t Q64 | replace Q64 := bx_f Q64 | replace Q64 := be_t Q64 | replace Q64 := be_f Q64 | replace Q64 := of_decide_eq_true Q64 | replace Q64 := of_decide_eq_false Q64)
                                              first
                                               | (exfalso; first | omega | (simp at *; done) | contradiction | (cases Q64; done))
                                               | skip
                                                 refine st_gno rfl rfl ?_
                                                 refine st_gno rfl rfl ?_
                                                 refine st_gno rfl rfl ?_
                                                 refine st_gno rfl rfl ?_
                                                 refine st_gno rfl rfl ?_
                                                 refine st_gno rfl rfl ?_
                                                 refine st_unguard rfl ?_
                                                 refine st_val (ro_pickF (v := .bool _) rfl rfl) ?_
                                                 refine st_val (ro_pickF (v := .bool _) rfl rfl) ?_
                                                 refine st_nil ?_
                                                 refine nx_then ?_
                                                 refine cd_condF rfl ?_
                                                 refine cd_skip ?_
                                                 refine nx_block ?_
                                                 refine nx_then ?_
                                                 refine cd_region ?_
                                                 refine st_val (ro_move (v := .int _ _) rfl) ?_
                                                 refine st_val (ro_addN (b := 1) rfl rfl (by omega)) ?_
                                                 refine st_val (ro_assign (v := .int _ _) rfl) ?_
                                                 refine st_nil ?_
                                                 refine nx_cut (k + 1) ⟨(by first | rfl | (refine int_eq ?_; omega)), trivial⟩ (by (iterate 185 refine agr_cons rfl ?_); exact agr_rfl) ⟨?_, ?_⟩
                                                 · exact ⟨by omega, (((((((hB.next E4).only O4 (by rw [hb4]; exact hB.size)).next E25).next E38).next E45).grew hG49 (fun k hk => Nat.le_trans hB38.size (own_lt ho38 hk).1)).next E57)⟩
                                                 · omega
                                  · (try first | replace Q61 := bn_t Q61 | replace Q61 := bn_f Q61)
                                    (try first | replace Q61 := bx_t Q61 | replace Q61 := bx_f Q61 | replace Q61 := be_t Q61 | replace Q61 := be_f Q61 | replace Q61 := of_decide_eq_true Q61 | replace Q61 := of_decide_eq_false Q61)
                                    first
                                     | (exfalso; first | omega | (simp at *; done) | contradiction | (cases Q61; done))
                                     | skip
                                       refine st_gno rfl rfl ?_
                                       refine st_gno rfl rfl ?_
                                       refine st_gno rfl rfl ?_
                                       refine st_unguard rfl ?_
                                       refine st_val (ro_pickF (v := .bool _) rfl rfl) ?_
                                       refine st_val (ro_pickF (v := .bool _) rfl rfl) ?_
                                       refine st_val (ro_move (v := .bool _) rfl) ?_
                                       refine st_unguard rfl ?_
                                       refine st_val (ro_move (v := .bool _) rfl) ?_
                                       refine st_unguard rfl ?_
                                       refine st_val (ro_move (v := .bool _) rfl) ?_
                                       refine st_split (t := 82) rfl (fun Q67 => ?_) (fun Q67 => ?_)
                                       · (try first | replace Q67 := bn_t Q67 | replace Q67 := bn_f Q67)
                                         (try first | replace Q67 := bx_t Q67 | replace Q67 := bx_f Q67 | replace Q67 := be_t Q67 | replace Q67 := be_f Q67 | replace Q67 := of_decide_eq_true Q67 | replace Q67 := of_decide_eq_false Q67)
                                         first
                                          | (exfalso; first | omega | (simp at *; done) | contradiction | (cases Q67; done))
                                          | skip
                                            refine st_unguard rfl ?_
                                            refine st_val (ro_move (v := .pointer _) rfl) ?_
                                            refine st_unguard rfl ?_
                                            refine st_val (ro_fieldAddr IntsLaws2_f26_0 rfl) ?_
                                            refine st_unguard rfl ?_
                                            refine st_val (ro_load IntsLaws2_g3 rfl (by first | (first | exact (P4.from_ (From.rfl_.next E57)).rd 0 rfl | exact (P4.from_ (From.rfl_.next E57)).rd 1 rfl | exact (P4.from_ (From.rfl_.next E57)).rd 2 rfl | exact (P4.from_ (From.rfl_.next E57)).rd 3 rfl))) ?_
                                            refine st_unguard rfl ?_
                                            refine st_val (ro_move (v := .slice _ _ _) rfl) ?_
                                            refine st_unguard rfl ?_
                                            refine st_call IntsLaws2_k13 (same_eq _ g W.toNat W A57 c57 l l57 _ (hI.from_ (From.rfl_.next E57)) (r57.from_ From.rfl_) (by have := hgood.2.2.2.1; omega) (by have := hgood.1; omega) (nums_ext (by omega) hlt lt57 (fun t ht => by rw [hll] at ht; rw [hbits t ht, b57 t ht]))) ?_
                                            rintro v87 w68 ⟨rfl, E87⟩
                                            refine st_unguard rfl ?_
                                            refine st_val (ro_not rfl) ?_
                                            refine st_unguard rfl ?_
                                            refine st_val (ro_pickT (v := .bool _) rfl rfl) ?_
                                            refine st_val (ro_pickF (v := .bool _) rfl rfl) ?_
                                            refine st_nil ?_
                                            refine nx_then ?_
                                            refine cd_cond rfl (fun Q69 => ?_) (fun Q69 => ?_)
                                            · (try first | replace Q69 := bn_t Q69 | replace Q69 := bn_f Q69)
                                              (try first | replace Q69 := bx_t Q69 | replace Q69 := bx_f Q69 | replace Q69 := be_t Q69 | replace Q69 := be_f Q69 | replace Q69 := of_decide_eq_true Q69 | replace Q69 := of_decide_eq_false Q69)
                                              first
                                               | (exfalso; first | omega | (simp at *; done) | contradiction | (cases Q69; done))
                                               | skip
                                                 refine cd_seq ?_
                                                 refine cd_region ?_
                                                 refine st_val (ro_assign (v := .bool _) rfl) ?_
                                                 refine st_nil ?_
                                                 refine nx_then ?_
                                                 refine cd_ret ?_
                                                 refine rt_block ?_
                                                 refine rt_then ?_
                                                 refine rt_then ?_
                                                 refine rt_block ?_
                                                 refine rt_then ?_
                                                 refine res1 (v := .bool _) rfl rfl ?_
                                                 exfalso; first | omega | contradiction
                                            · (try first | replace Q69 := bn_t Q69 | replace Q69 := bn_f Q69)
                                              (try first | replace Q69 := bx_t Q69 | replace Q69 := bx_f Q69 | replace Q69 := be_t Q69 | replace Q69 := be_f Q69 | replace Q69 := of_decide_eq_true Q69 | replace Q69 := of_decide_eq_false Q69)
                                              first
                                               | (exfalso; first | omega | (simp at *; done) | contradiction | (cases Q69; done))
                                               | skip
                                                 refine cd_skip ?_
                                                 refine nx_block ?_
                                                 refine nx_then ?_
                                                 refine cd_region ?_
                                                 refine st_val (ro_move (v := .int _ _) rfl) ?_
                                                 refine st_val (ro_addN (b := 1) rfl rfl (by omega)) ?_
                                                 refine st_val (ro_assign (v := .int _ _) rfl) ?_
                                                 refine st_nil ?_
                                                 refine nx_cut (k + 1) ⟨(by first | rfl | (refine int_eq ?_; omega)), trivial⟩ (by (iterate 184 refine agr_cons rfl ?_); exact agr_rfl) ⟨?_, ?_⟩
                                                 · exact ⟨by omega, ((((((((hB.next E4).only O4 (by rw [hb4]; exact hB.size)).next E25).next E38).next E45).grew hG49 (fun k hk => Nat.le_trans hB38.size (own_lt ho38 hk).1)).next E57).next E87)⟩
                                                 · omega
                                       · (try first | replace Q67 := bn_t Q67 | replace Q67 := bn_f Q67)
                                         (try first | replace Q67 := bx_t Q67 | replace Q67 := bx_f Q67 | replace Q67 := be_t Q67 | replace Q67 := be_f Q67 | replace Q67 := of_decide_eq_true Q67 | replace Q67 := of_decide_eq_false Q67)
                                         first
                                          | (exfalso; first | omega | (simp at *; done) | contradiction | (cases Q67; done))
                                          | skip
                                            refine st_gno rfl rfl ?_
                                            refine st_gno rfl rfl ?_
                                            refine st_gno rfl rfl ?_
                                            refine st_gno rfl rfl ?_
                                            refine st_gno rfl rfl ?_
                                            refine st_gno rfl rfl ?_
                                            refine st_unguard rfl ?_
                                            refine st_val (ro_pickF (v := .bool _) rfl rfl) ?_
                                            refine st_val (ro_pickF (v := .bool _) rfl rfl) ?_
                                            refine st_nil ?_
                                            refine nx_then ?_
                                            refine cd_condF rfl ?_
                                            refine cd_skip ?_
                                            refine nx_block ?_
                                            refine nx_then ?_
                                            refine cd_region ?_
                                            refine st_val (ro_move (v := .int _ _) rfl) ?_
                                            refine st_val (ro_addN (b := 1) rfl rfl (by omega)) ?_
                                            refine st_val (ro_assign (v := .int _ _) rfl) ?_
                                            refine st_nil ?_
                                            refine nx_cut (k + 1) ⟨(by first | rfl | (refine int_eq ?_; omega)), trivial⟩ (by (iterate 184 refine agr_cons rfl ?_); exact agr_rfl) ⟨?_, ?_⟩
                                            · exact ⟨by omega, (((((((hB.next E4).only O4 (by rw [hb4]; exact hB.size)).next E25).next E38).next E45).grew hG49 (fun k hk => Nat.le_trans hB38.size (own_lt ho38 hk).1)).next E57)⟩
                                            · omega
       · (try first | replace Q3 := bn_t Q3 | replace Q3 := bn_f Q3)
         (try first | replace Q3 := bx_t Q3 | replace Q3 := bx_f Q3 | replace Q3 := be_t Q3 | replace Q3 := be_f Q3 | replace Q3 := of_decide_eq_true Q3 | replace Q3 := of_decide_eq_false Q3)
         first
          | (exfalso; first | omega | (simp at *; done) | contradiction | (cases Q3; done))
          | skip
            refine cd_exit ?_
            refine ex_then ?_
            refine ex_then ?_
            refine ex_block ?_
            refine nx_then ?_
            refine cd_seq ?_
            refine cd_region ?_
            refine st_call IntsLaws2_k18 (wakes_any _) ?_
            rintro v91 w70 ⟨rfl, E91⟩
            refine st_val (ro_assign (v := .bool _) rfl) ?_
            refine st_nil ?_
            refine nx_then ?_
            refine cd_ret ?_
            refine res1 (v := .bool _) rfl rfl ?_
            exact ⟨rfl, (hB.next E91)⟩
  · (try first | replace Q2 := bn_t Q2 | replace Q2 := bn_f Q2)
    (try first | replace Q2 := bx_t Q2 | replace Q2 := bx_f Q2 | replace Q2 := be_t Q2 | replace Q2 := be_f Q2 | replace Q2 := of_decide_eq_true Q2 | replace Q2 := of_decide_eq_false Q2)
    first
     | (exfalso; first | omega | (simp at *; done) | contradiction | (cases Q2; done))
     | skip
       refine st_gno rfl rfl ?_
       refine st_gno rfl rfl ?_
       refine st_val (ro_pickF (v := .bool _) rfl rfl) ?_
       refine st_nil ?_
       refine nx_then ?_
       refine cd_condF rfl ?_
       refine cd_exit ?_
       refine ex_then ?_
       refine ex_then ?_
       refine ex_block ?_
       refine nx_then ?_
       refine cd_seq ?_
       refine cd_region ?_
       refine st_call IntsLaws2_k18 (wakes_any _) ?_
       rintro v91 w71 ⟨rfl, E91⟩
       refine st_val (ro_assign (v := .bool _) rfl) ?_
       refine st_nil ?_
       refine nx_then ?_
       refine cd_ret ?_
       refine res1 (v := .bool _) rfl rfl ?_
       exact ⟨rfl, (hB.next E91)⟩
end Go.Proofs.Ytgnmmifolhoaeaa
