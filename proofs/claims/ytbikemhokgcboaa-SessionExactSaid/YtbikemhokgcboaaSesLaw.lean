/- The law SessionBegins. -/
import Derived.Test.YtbikemhokgcboaaSesOpen0
namespace Go.Proofs.Ytbikemhokgcboaa
open Go.RowKit
open Go.ChangeShapes Go.WideShapes Go.ChangeAt
theorem SesLaw_f25_0 : fieldQ Try.prog 25 0 = some 0 := by kernel_rfl
theorem SesLaw_g22 : aggQ Try.prog 22 = some false := by kernel_rfl
theorem SesLaw_l22 : (elemQ Try.prog 22).isSome = true := by kernel_rfl
theorem SesLaw_e22 : elemQ Try.prog 22 = some (60, 6) := by kernel_rfl
theorem SesLaw_f60_2 : fieldQ Try.prog 60 2 = some 2 := by kernel_rfl
theorem SesLaw_f31_2 : fieldQ Try.prog 31 2 = some 2 := by kernel_rfl
theorem SesLaw_g29 : aggQ Try.prog 29 = some false := by kernel_rfl
theorem SesLaw_l29 : (elemQ Try.prog 29).isSome = true := by kernel_rfl
theorem SesLaw_f25_1 : fieldQ Try.prog 25 1 = some 1 := by kernel_rfl
theorem SesLaw_g23 : aggQ Try.prog 23 = some false := by kernel_rfl
theorem SesLaw_l23 : (elemQ Try.prog 23).isSome = true := by kernel_rfl
theorem SesLaw_e23 : elemQ Try.prog 23 = some (33, 7) := by kernel_rfl
theorem SesLaw_f33_4 : fieldQ Try.prog 33 4 = some 4 := by kernel_rfl
theorem SesLaw_g25 : aggQ Try.prog 25 = some true := by kernel_rfl
theorem SesLaw_z25 : sizeQ Try.prog 25 = some 2 := by kernel_rfl
theorem SesLaw_k9 : callable Try.prog 9 = true := by kernel_rfl
theorem SesLaw_k11 : callable Try.prog 11 = true := by kernel_rfl
theorem SesLaw_g33 : aggQ Try.prog 33 = some true := by kernel_rfl
theorem SesLaw_z33 : sizeQ Try.prog 33 = some 7 := by kernel_rfl
theorem SesLaw_o33 : zeroQ Try.prog 33 = some (.agg #[.int .i64 0, .int .i64 0, .int .i64 0, .int .i64 0, .int .i64 0, .int .i64 0, .slice none 0 0]) := by kernel_rfl
theorem SesLaw_f33_1 : fieldQ Try.prog 33 1 = some 1 := by kernel_rfl
theorem SesLaw_g3 : aggQ Try.prog 3 = some false := by kernel_rfl
theorem SesLaw_f33_2 : fieldQ Try.prog 33 2 = some 2 := by kernel_rfl
theorem SesLaw_k16 : callable Try.prog 16 = true := by kernel_rfl
theorem SesLaw_o31 : zeroQ Try.prog 31 = some (.agg #[.int .i64 0, .int .i64 0, .slice none 0 0]) := by kernel_rfl
theorem SesLaw_z31 : sizeQ Try.prog 31 = some 3 := by kernel_rfl
theorem SesLaw_k15 : callable Try.prog 15 = true := by kernel_rfl
theorem SesLaw_k12 : callable Try.prog 12 = true := by kernel_rfl
theorem SesLaw_g31 : aggQ Try.prog 31 = some true := by kernel_rfl
theorem SesLaw_k17 : callable Try.prog 17 = true := by kernel_rfl
theorem SesLaw_k28 : callable Try.prog 28 = true := by kernel_rfl
abbrev hitT : Ty := .pr .str (.pr (.int .i64) .unit)
abbrev repT : Ty := .pr (.int .i64) (.pr (.int .i64) (.pr (.sl hitT) .unit))
abbrev sesT : Ty := .pr (.int .i64) (.pr (.int .i64) (.pr repT (.pr (.int .i64) .unit)))
abbrev actT : Ty := .pr (.int .i64) (.pr (.int .i64) (.pr (.int .i64) (.pr (.int .i64) (.pr repT .unit))))
abbrev scrT : Ty := .pr (.sl sesT) (.pr (.sl actT) .unit)
structure Act where
  d : Int
  c : Int
  s : Int
  i : Int
  e : Int
  n : Int
  H : Option Addr
  hl : Nat
  hc : Nat
def actV (x : Act) : List Value := [.int .i64 x.d, .int .i64 x.c, .int .i64 x.s, .int .i64 x.i, .int .i64 x.e, .int .i64 x.n, .slice x.H x.hl x.hc]
def RowT (w : World) (A : Option Addr) (L : List Act) : Prop := 0 < L.length → ∃ b o, A = some ⟨b, o, none⟩ ∧ ∀ i (h : i < L.length), w.rangeAt b (o + i * 7) (actV L[i])
theorem list_choose {α : Type} {n : Nat} {P : Nat → α → Prop} (h : ∀ i, i < n → ∃ x, P i x) : ∃ L : List α, L.length = n ∧ ∀ i (hi : i < L.length), P i L[i] :=
  ⟨List.ofFn fun i : Fin n => Classical.choose (h i i.2), by simp, fun i hi => by
    rw [List.getElem_ofFn]
    exact Classical.choose_spec (h i (by simpa using hi))⟩
theorem range6 {w : World} {b a : Nat} {v0 v1 v2 v3 v4 v5 : Value} (h0 : w.cell? ⟨b, a + 0, none⟩ = some v0) (h1 : w.cell? ⟨b, a + 1, none⟩ = some v1) (h2 : w.cell? ⟨b, a + 2, none⟩ = some v2) (h3 : w.cell? ⟨b, a + 3, none⟩ = some v3) (h4 : w.cell? ⟨b, a + 4, none⟩ = some v4) (h5 : w.cell? ⟨b, a + 5, none⟩ = some v5) : w.rangeAt b a [v0, v1, v2, v3, v4, v5] := fun j v hv => by
  match j, hv with
  | 0, hv => simp at hv; subst hv; exact h0
  | 1, hv => simp at hv; subst hv; exact h1
  | 2, hv => simp at hv; subst hv; exact h2
  | 3, hv => simp at hv; subst hv; exact h3
  | 4, hv => simp at hv; subst hv; exact h4
  | 5, hv => simp at hv; subst hv; exact h5
  | j + 6, hv => simp at hv
theorem range7 {w : World} {b a : Nat} {v0 v1 v2 v3 v4 v5 v6 : Value} (h0 : w.cell? ⟨b, a + 0, none⟩ = some v0) (h1 : w.cell? ⟨b, a + 1, none⟩ = some v1) (h2 : w.cell? ⟨b, a + 2, none⟩ = some v2) (h3 : w.cell? ⟨b, a + 3, none⟩ = some v3) (h4 : w.cell? ⟨b, a + 4, none⟩ = some v4) (h5 : w.cell? ⟨b, a + 5, none⟩ = some v5) (h6 : w.cell? ⟨b, a + 6, none⟩ = some v6) : w.rangeAt b a [v0, v1, v2, v3, v4, v5, v6] := fun j v hv => by
  match j, hv with
  | 0, hv => simp at hv; subst hv; exact h0
  | 1, hv => simp at hv; subst hv; exact h1
  | 2, hv => simp at hv; subst hv; exact h2
  | 3, hv => simp at hv; subst hv; exact h3
  | 4, hv => simp at hv; subst hv; exact h4
  | 5, hv => simp at hv; subst hv; exact h5
  | 6, hv => simp at hv; subst hv; exact h6
  | j + 7, hv => simp at hv
theorem at_ses {w : World} {c : Nat → Option Value} {xs : List sesT.den} (h : (Ty.sl sesT).At w c xs) : ∃ (A : Option Addr) (cap : Nat) (L : List Ses), c 0 = some (.slice A L.length cap) ∧ RowS w A L ∧ L.length * 64 ≤ 140737488351232 := by
  obtain ⟨A, cap, h0, hb, _, hi⟩ := h
  rcases Nat.eq_zero_or_pos xs.length with hz | hz
  · exact ⟨A, cap, [], by rw [h0, hz]; rfl, fun h => absurd h (by simp), by simp⟩
  · obtain ⟨b, o, hA, _, hx⟩ := hi hz
    obtain ⟨L, hL, hP⟩ := list_choose (α := Ses) (n := xs.length) (P := fun i x => w.rangeAt b (o + i * 6) (sesV x)) (fun i hi => by
      obtain ⟨g0, g1, ⟨g2, g3, ⟨H, hc, g4, _⟩, _⟩, g5, _⟩ := hx i _ (List.getElem?_eq_getElem hi)
      exact ⟨⟨_, _, _, _, H, _, hc, _⟩, range6 (a := o + i * 6) g0.1 g1.1 g2.1 g3.1 g4 g5.1⟩)
    exact ⟨A, cap, L, by rw [h0, hL], fun _ => ⟨b, o, hA, hP⟩, by rw [hL]; exact hb⟩
theorem at_acts {w : World} {c : Nat → Option Value} {xs : List actT.den} (h : (Ty.sl actT).At w c xs) : ∃ (A : Option Addr) (cap : Nat) (L : List Act), c 0 = some (.slice A L.length cap) ∧ RowT w A L ∧ L.length * 72 ≤ 140737488351232 := by
  obtain ⟨A, cap, h0, hb, _, hi⟩ := h
  rcases Nat.eq_zero_or_pos xs.length with hz | hz
  · exact ⟨A, cap, [], by rw [h0, hz]; rfl, fun h => absurd h (by simp), by simp⟩
  · obtain ⟨b, o, hA, _, hx⟩ := hi hz
    obtain ⟨L, hL, hP⟩ := list_choose (α := Act) (n := xs.length) (P := fun i x => w.rangeAt b (o + i * 7) (actV x)) (fun i hi => by
      obtain ⟨g0, g1, g2, g3, ⟨g4, g5, ⟨H, hc, g6, _⟩, _⟩, _⟩ := hx i _ (List.getElem?_eq_getElem hi)
      exact ⟨⟨_, _, _, _, _, _, H, _, hc⟩, range7 (a := o + i * 7) g0.1 g1.1 g2.1 g3.1 g4.1 g5.1 g6⟩)
    exact ⟨A, cap, L, by rw [h0, hL], fun _ => ⟨b, o, hA, hP⟩, by rw [hL]; exact hb⟩
theorem RowT.from_ {w w' : World} {A : Option Addr} {L : List Act} (h : RowT w A L) (hF : From w w') : RowT w' A L := fun h0 =>
  let ⟨b, o, hA, hc⟩ := h h0
  ⟨b, o, hA, fun i hi => rangeF hF (hc i hi)⟩
theorem both_eq {L : List Ses} (hv : ValidL L) {cl sq e n e' n' r r' : Int} {H : Option Addr} {hl hc : Nat} {b b' : Bool} (h : BegGot tellS L cl sq (rV e n none 0 0 b r)) (h' : BegGot tellR L cl sq (rV e' n' H hl hc b' r')) : e' = e ∧ n' = n ∧ b' = b ∧ r' = r ∧ hl = 0 := by
  obtain ⟨e1, n1, H1, c1, b1, r1, h1, h2⟩ := both_got hv h h'
  simp only [rV, Value.tuple.injEq, Array.mk.injEq, List.cons.injEq, Value.agg.injEq, Value.int.injEq, Value.slice.injEq, Value.bool.injEq, true_and, and_true] at h1 h2
  obtain ⟨⟨rfl, rfl⟩, rfl, rfl⟩ := h1
  obtain ⟨⟨rfl, rfl, _, rfl, _⟩, rfl, rfl⟩ := h2
  exact ⟨rfl, rfl, rfl, rfl, rfl⟩
theorem beg_lit {L : List Ses} {cl sq : Int} {v : Value} (h : BegGot tellS L cl sq v) : ∃ e n b r, v = rV e n none 0 0 b r := by
  rcases h with ⟨_, rfl⟩ | ⟨_, _, rfl⟩ | ⟨i, hi, _, _, ⟨_, rfl⟩ | ⟨_, rfl⟩ | ⟨_, rfl⟩⟩ <;> exact ⟨_, _, _, _, rfl⟩
theorem beg_litR {L : List Ses} {cl sq : Int} {v : Value} (h : BegGot tellR L cl sq v) : ∃ e n H hl hc b r, v = rV e n H hl hc b r := by
  rcases h with ⟨_, rfl⟩ | ⟨_, _, rfl⟩ | ⟨i, hi, _, _, ⟨_, rfl⟩ | ⟨_, rfl⟩ | ⟨_, rfl⟩⟩ <;> exact ⟨_, _, _, _, _, _, _, rfl⟩
theorem nb_self (b : Bool) : (!(b == b)) = false := by cases b <;> rfl
theorem eqR (e n : Int) (A B : Option Addr) (ca cb m : Nat) (w : World) (hm : m = 0) : Rt Try.prog 17 [.agg #[.int .i64 e, .int .i64 n, .slice A 0 ca], .agg #[.int .i64 e, .int .i64 n, .slice B m cb]] w fun v w' => v = .bool true ∧ From w w' := by
  subst hm
  exact eqReply0 e n A B ca cb w
set_option maxRecDepth 100000 in
set_option maxHeartbeats 400000 in
theorem heavy_any (A : Option Addr) (ca : Nat) (L : List Ses) (B : Option Addr) (cb : Nat) (K : List Act) (w : World) (hr : RowS w A L) (hk : RowT w B K) (hL : L.length * 64 ≤ 140737488351232) (hK : K.length * 72 ≤ 140737488351232) :
    Rt Try.prog 9 [.agg #[.slice A L.length ca, .slice B K.length cb]] w (fun v w' => (∃ b, v = .bool b) ∧ From w w') := by
  refine enter (n := 59) Try.func9 rfl rfl rfl ?_
  refine cd_seq ?_
  refine cd_region ?_
  refine st_box (v := .agg _) rfl ?_
  intro b1 w1 E1 hb1 hk1
  refine st_val (ro_assign (v := .bool _) rfl) ?_
  refine st_nil ?_
  refine nx_then ?_
  refine cd_seq ?_
  refine cd_region ?_
  refine st_val (ro_fieldAddr SesLaw_f25_0 rfl) ?_
  refine st_val (ro_load SesLaw_g22 rfl (by exact (hk1.from_ From.rfl_).rd 0 rfl)) ?_
  refine st_val (ro_len SesLaw_l22 rfl) ?_
  refine st_val (ro_assign (v := .int _ _) rfl) ?_
  refine st_nil ?_
  refine nx_then ?_
  refine cd_seq ?_
  refine cd_seq ?_
  refine cd_region ?_
  refine st_val (ro_assign (v := .int _ _) rfl) ?_
  refine st_nil ?_
  refine nx_then ?_
  refine cd_block ?_
  refine cd_loop (G := Int × Nat) [9, 10, 11, 12, 13, 14, 15, 16, 17, 18, 19, 20, 21, 22, 23, 24, 25, 26, 27, 28, 29] (fun (n, k) => [(3, .int .i64 n), (4, .int .i64 (k : Nat))]) (fun (n, k) w' => k ≤ L.length ∧ w1 = w') (fun (_, k) => L.length - k) ((((L.length : Nat) : Int), 0)) ⟨rfl, rfl, trivial⟩ ?_ ?_
  · exact ⟨Nat.zero_le _, rfl⟩
  rintro ⟨n4, k⟩ ρ2 w2 ⟨hkl, rfl⟩
  refine cd_seq ?_
  refine cd_seq ?_
  refine cd_region ?_
  refine st_val (ro_move (v := .int _ _) rfl) ?_
  refine st_val (ro_fieldAddr SesLaw_f25_0 rfl) ?_
  refine st_val (ro_load SesLaw_g22 rfl (by exact (hk1.from_ From.rfl_).rd 0 rfl)) ?_
  refine st_val (ro_len SesLaw_l22 rfl) ?_
  refine st_val (ro_lss rfl rfl) ?_
  refine st_val (ro_move (v := .bool _) rfl) ?_
  refine st_split (t := 14) rfl (fun Q3 => ?_) (fun Q3 => ?_)
  · (try first | replace Q3 := bn_t Q3 | replace Q3 := bn_f Q3)
    (try first | replace Q3 := bx_t Q3 | replace Q3 := bx_f Q3 | replace Q3 := be_t Q3 | replace Q3 := be_f Q3 | replace Q3 := of_decide_eq_true Q3 | replace Q3 := of_decide_eq_false Q3)
    first
     | (exfalso; first | omega | contradiction | (cases Q3; done))
     | skip
       refine st_unguard rfl ?_
       refine st_val (ro_move (v := .int _ _) rfl) ?_
       refine st_unguard rfl ?_
       refine st_val (ro_lss rfl rfl) ?_
       refine st_val (ro_pickT (v := .bool _) rfl rfl) ?_
       refine st_nil ?_
       refine nx_then ?_
       refine cd_cond rfl (fun Q4 => ?_) (fun Q4 => ?_)
       · (try first | replace Q4 := bn_t Q4 | replace Q4 := bn_f Q4)
         (try first | replace Q4 := bx_t Q4 | replace Q4 := bx_f Q4 | replace Q4 := be_t Q4 | replace Q4 := be_f Q4 | replace Q4 := of_decide_eq_true Q4 | replace Q4 := of_decide_eq_false Q4)
         obtain ⟨ba, oa, rfl, hcs⟩ := hr (by omega)
         first
          | (exfalso; first | omega | contradiction | (cases Q4; done))
          | skip
            refine cd_skip ?_
            refine nx_then ?_
            refine cd_seq ?_
            refine cd_block ?_
            refine cd_region ?_
            refine st_val (ro_move (v := .int _ _) rfl) ?_
            refine st_val (ro_fieldAddr SesLaw_f25_0 rfl) ?_
            refine st_val (ro_load SesLaw_g22 rfl (by exact (hk1.from_ From.rfl_).rd 0 rfl)) ?_
            refine st_val (ro_move (v := .int _ _) rfl) ?_
            refine st_val (ro_indexAddrN SesLaw_e22 rfl rfl (by omega)) ?_
            refine st_val (ro_fieldAddr SesLaw_f60_2 rfl) ?_
            refine st_val (ro_fieldAddr SesLaw_f31_2 rfl) ?_
            refine st_val (ro_load SesLaw_g29 rfl (by exact cellF (From.rfl_.next E1) (hcs k (by omega) 4 _ rfl))) ?_
            refine st_val (ro_len SesLaw_l29 rfl) ?_
            refine st_val (ro_add rfl rfl) ?_
            refine st_val (ro_assign (v := .int _ _) rfl) ?_
            refine st_nil ?_
            refine nx_block ?_
            refine nx_then ?_
            refine cd_region ?_
            refine st_val (ro_move (v := .int _ _) rfl) ?_
            refine st_val (ro_addN (b := 1) rfl rfl (by omega)) ?_
            refine st_val (ro_assign (v := .int _ _) rfl) ?_
            refine st_nil ?_
            refine nx_cut ((_, k + 1)) ⟨rfl, (by first | rfl | (refine int_eq ?_; omega)), trivial⟩ (by (iterate 47 refine agr_cons rfl ?_); exact agr_rfl) ⟨?_, ?_⟩
            · exact ⟨by omega, rfl⟩
            · show _ - _ < _ - _; omega
       · (try first | replace Q4 := bn_t Q4 | replace Q4 := bn_f Q4)
         (try first | replace Q4 := bx_t Q4 | replace Q4 := bx_f Q4 | replace Q4 := be_t Q4 | replace Q4 := be_f Q4 | replace Q4 := of_decide_eq_true Q4 | replace Q4 := of_decide_eq_false Q4)
         first
          | (exfalso; first | omega | contradiction | (cases Q4; done))
          | skip
            refine cd_exit ?_
            refine ex_then ?_
            refine ex_then ?_
            refine ex_block ?_
            refine nx_then ?_
            refine cd_seq ?_
            refine cd_seq ?_
            refine cd_region ?_
            refine st_val (ro_assign (v := .int _ _) rfl) ?_
            refine st_nil ?_
            refine nx_then ?_
            refine cd_block ?_
            refine cd_loop (G := Int × Nat) [30, 31, 32, 33, 34, 35, 36, 37, 38, 39, 40, 41, 42, 43, 44, 45, 46, 47, 48, 49, 50] (fun (n, k) => [(3, .int .i64 n), (5, .int .i64 (k : Nat))]) (fun (n, k) w' => k ≤ K.length ∧ w1 = w') (fun (_, k) => K.length - k) ((n4, 0)) ⟨rfl, rfl, trivial⟩ ?_ ?_
            · exact ⟨Nat.zero_le _, rfl⟩
            rintro ⟨n5, k⟩ ρ5 w5 ⟨hkl, rfl⟩
            refine cd_seq ?_
            refine cd_seq ?_
            refine cd_region ?_
            refine st_val (ro_move (v := .int _ _) rfl) ?_
            refine st_val (ro_fieldAddr SesLaw_f25_1 rfl) ?_
            refine st_val (ro_load SesLaw_g23 rfl (by exact (hk1.from_ From.rfl_).rd 1 rfl)) ?_
            refine st_val (ro_len SesLaw_l23 rfl) ?_
            refine st_val (ro_lss rfl rfl) ?_
            refine st_val (ro_move (v := .bool _) rfl) ?_
            refine st_split (t := 35) rfl (fun Q6 => ?_) (fun Q6 => ?_)
            · (try first | replace Q6 := bn_t Q6 | replace Q6 := bn_f Q6)
              (try first | replace Q6 := bx_t Q6 | replace Q6 := bx_f Q6 | replace Q6 := be_t Q6 | replace Q6 := be_f Q6 | replace Q6 := of_decide_eq_true Q6 | replace Q6 := of_decide_eq_false Q6)
              first
               | (exfalso; first | omega | contradiction | (cases Q6; done))
               | skip
                 refine st_unguard rfl ?_
                 refine st_val (ro_move (v := .int _ _) rfl) ?_
                 refine st_unguard rfl ?_
                 refine st_val (ro_lss rfl rfl) ?_
                 refine st_val (ro_pickT (v := .bool _) rfl rfl) ?_
                 refine st_nil ?_
                 refine nx_then ?_
                 refine cd_cond rfl (fun Q7 => ?_) (fun Q7 => ?_)
                 · (try first | replace Q7 := bn_t Q7 | replace Q7 := bn_f Q7)
                   (try first | replace Q7 := bx_t Q7 | replace Q7 := bx_f Q7 | replace Q7 := be_t Q7 | replace Q7 := be_f Q7 | replace Q7 := of_decide_eq_true Q7 | replace Q7 := of_decide_eq_false Q7)
                   obtain ⟨bb, ob, rfl, hct⟩ := hk (by omega)
                   first
                    | (exfalso; first | omega | contradiction | (cases Q7; done))
                    | skip
                      refine cd_skip ?_
                      refine nx_then ?_
                      refine cd_seq ?_
                      refine cd_block ?_
                      refine cd_region ?_
                      refine st_val (ro_move (v := .int _ _) rfl) ?_
                      refine st_val (ro_fieldAddr SesLaw_f25_1 rfl) ?_
                      refine st_val (ro_load SesLaw_g23 rfl (by exact (hk1.from_ From.rfl_).rd 1 rfl)) ?_
                      refine st_val (ro_move (v := .int _ _) rfl) ?_
                      refine st_val (ro_indexAddrN SesLaw_e23 rfl rfl (by omega)) ?_
                      refine st_val (ro_fieldAddr SesLaw_f33_4 rfl) ?_
                      refine st_val (ro_fieldAddr SesLaw_f31_2 rfl) ?_
                      refine st_val (ro_load SesLaw_g29 rfl (by exact cellF (From.rfl_.next E1) (hct k (by omega) 6 _ rfl))) ?_
                      refine st_val (ro_len SesLaw_l29 rfl) ?_
                      refine st_val (ro_add rfl rfl) ?_
                      refine st_val (ro_assign (v := .int _ _) rfl) ?_
                      refine st_nil ?_
                      refine nx_block ?_
                      refine nx_then ?_
                      refine cd_region ?_
                      refine st_val (ro_move (v := .int _ _) rfl) ?_
                      refine st_val (ro_addN (b := 1) rfl rfl (by omega)) ?_
                      refine st_val (ro_assign (v := .int _ _) rfl) ?_
                      refine st_nil ?_
                      refine nx_cut ((_, k + 1)) ⟨rfl, (by first | rfl | (refine int_eq ?_; omega)), trivial⟩ (by (iterate 47 refine agr_cons rfl ?_); exact agr_rfl) ⟨?_, ?_⟩
                      · exact ⟨by omega, rfl⟩
                      · show _ - _ < _ - _; omega
                 · (try first | replace Q7 := bn_t Q7 | replace Q7 := bn_f Q7)
                   (try first | replace Q7 := bx_t Q7 | replace Q7 := bx_f Q7 | replace Q7 := be_t Q7 | replace Q7 := be_f Q7 | replace Q7 := of_decide_eq_true Q7 | replace Q7 := of_decide_eq_false Q7)
                   first
                    | (exfalso; first | omega | contradiction | (cases Q7; done))
                    | skip
                      refine cd_exit ?_
                      refine ex_then ?_
                      refine ex_then ?_
                      refine ex_block ?_
                      refine nx_then ?_
                      refine cd_seq ?_
                      refine cd_region ?_
                      refine st_val (ro_move (v := .int _ _) rfl) ?_
                      refine st_val (ro_gtr rfl rfl) ?_
                      refine st_val (ro_move (v := .bool _) rfl) ?_
                      refine st_split (t := 53) rfl (fun Q8 => ?_) (fun Q8 => ?_)
                      · (try first | replace Q8 := bn_t Q8 | replace Q8 := bn_f Q8)
                        (try first | replace Q8 := bx_t Q8 | replace Q8 := bx_f Q8 | replace Q8 := be_t Q8 | replace Q8 := be_f Q8 | replace Q8 := of_decide_eq_true Q8 | replace Q8 := of_decide_eq_false Q8)
                        first
                         | (exfalso; first | omega | contradiction | (cases Q8; done))
                         | skip
                           refine st_gno rfl rfl ?_
                           refine st_gno rfl rfl ?_
                           refine st_gno rfl rfl ?_
                           refine st_gno rfl rfl ?_
                           refine st_val (ro_pickT (v := .bool _) rfl rfl) ?_
                           refine st_val (ro_assign (v := .bool _) rfl) ?_
                           refine st_nil ?_
                           refine nx_then ?_
                           refine cd_ret ?_
                           refine res1 (v := .bool _) rfl rfl ?_
                           exact ⟨⟨_, rfl⟩, (From.rfl_.next E1)⟩
                      · (try first | replace Q8 := bn_t Q8 | replace Q8 := bn_f Q8)
                        (try first | replace Q8 := bx_t Q8 | replace Q8 := bx_f Q8 | replace Q8 := be_t Q8 | replace Q8 := be_f Q8 | replace Q8 := of_decide_eq_true Q8 | replace Q8 := of_decide_eq_false Q8)
                        first
                         | (exfalso; first | omega | contradiction | (cases Q8; done))
                         | skip
                           refine st_unguard rfl ?_
                           refine st_val (ro_fieldAddr SesLaw_f25_1 rfl) ?_
                           refine st_unguard rfl ?_
                           refine st_val (ro_load SesLaw_g23 rfl (by exact (hk1.from_ From.rfl_).rd 1 rfl)) ?_
                           refine st_unguard rfl ?_
                           refine st_val (ro_len SesLaw_l23 rfl) ?_
                           refine st_unguard rfl ?_
                           refine st_val (ro_gtr rfl rfl) ?_
                           refine st_val (ro_pickF (v := .bool _) rfl rfl) ?_
                           refine st_val (ro_assign (v := .bool _) rfl) ?_
                           refine st_nil ?_
                           refine nx_then ?_
                           refine cd_ret ?_
                           refine res1 (v := .bool _) rfl rfl ?_
                           exact ⟨⟨_, rfl⟩, (From.rfl_.next E1)⟩
            · (try first | replace Q6 := bn_t Q6 | replace Q6 := bn_f Q6)
              (try first | replace Q6 := bx_t Q6 | replace Q6 := bx_f Q6 | replace Q6 := be_t Q6 | replace Q6 := be_f Q6 | replace Q6 := of_decide_eq_true Q6 | replace Q6 := of_decide_eq_false Q6)
              first
               | (exfalso; first | omega | contradiction | (cases Q6; done))
               | skip
                 refine st_gno rfl rfl ?_
                 refine st_gno rfl rfl ?_
                 refine st_val (ro_pickF (v := .bool _) rfl rfl) ?_
                 refine st_nil ?_
                 refine nx_then ?_
                 refine cd_condF rfl ?_
                 refine cd_exit ?_
                 refine ex_then ?_
                 refine ex_then ?_
                 refine ex_block ?_
                 refine nx_then ?_
                 refine cd_seq ?_
                 refine cd_region ?_
                 refine st_val (ro_move (v := .int _ _) rfl) ?_
                 refine st_val (ro_gtr rfl rfl) ?_
                 refine st_val (ro_move (v := .bool _) rfl) ?_
                 refine st_split (t := 53) rfl (fun Q9 => ?_) (fun Q9 => ?_)
                 · (try first | replace Q9 := bn_t Q9 | replace Q9 := bn_f Q9)
                   (try first | replace Q9 := bx_t Q9 | replace Q9 := bx_f Q9 | replace Q9 := be_t Q9 | replace Q9 := be_f Q9 | replace Q9 := of_decide_eq_true Q9 | replace Q9 := of_decide_eq_false Q9)
                   first
                    | (exfalso; first | omega | contradiction | (cases Q9; done))
                    | skip
                      refine st_gno rfl rfl ?_
                      refine st_gno rfl rfl ?_
                      refine st_gno rfl rfl ?_
                      refine st_gno rfl rfl ?_
                      refine st_val (ro_pickT (v := .bool _) rfl rfl) ?_
                      refine st_val (ro_assign (v := .bool _) rfl) ?_
                      refine st_nil ?_
                      refine nx_then ?_
                      refine cd_ret ?_
                      refine res1 (v := .bool _) rfl rfl ?_
                      exact ⟨⟨_, rfl⟩, (From.rfl_.next E1)⟩
                 · (try first | replace Q9 := bn_t Q9 | replace Q9 := bn_f Q9)
                   (try first | replace Q9 := bx_t Q9 | replace Q9 := bx_f Q9 | replace Q9 := be_t Q9 | replace Q9 := be_f Q9 | replace Q9 := of_decide_eq_true Q9 | replace Q9 := of_decide_eq_false Q9)
                   first
                    | (exfalso; first | omega | contradiction | (cases Q9; done))
                    | skip
                      refine st_unguard rfl ?_
                      refine st_val (ro_fieldAddr SesLaw_f25_1 rfl) ?_
                      refine st_unguard rfl ?_
                      refine st_val (ro_load SesLaw_g23 rfl (by exact (hk1.from_ From.rfl_).rd 1 rfl)) ?_
                      refine st_unguard rfl ?_
                      refine st_val (ro_len SesLaw_l23 rfl) ?_
                      refine st_unguard rfl ?_
                      refine st_val (ro_gtr rfl rfl) ?_
                      refine st_val (ro_pickF (v := .bool _) rfl rfl) ?_
                      refine st_val (ro_assign (v := .bool _) rfl) ?_
                      refine st_nil ?_
                      refine nx_then ?_
                      refine cd_ret ?_
                      refine res1 (v := .bool _) rfl rfl ?_
                      exact ⟨⟨_, rfl⟩, (From.rfl_.next E1)⟩
  · (try first | replace Q3 := bn_t Q3 | replace Q3 := bn_f Q3)
    (try first | replace Q3 := bx_t Q3 | replace Q3 := bx_f Q3 | replace Q3 := be_t Q3 | replace Q3 := be_f Q3 | replace Q3 := of_decide_eq_true Q3 | replace Q3 := of_decide_eq_false Q3)
    first
     | (exfalso; first | omega | contradiction | (cases Q3; done))
     | skip
       refine st_gno rfl rfl ?_
       refine st_gno rfl rfl ?_
       refine st_val (ro_pickF (v := .bool _) rfl rfl) ?_
       refine st_nil ?_
       refine nx_then ?_
       refine cd_condF rfl ?_
       refine cd_exit ?_
       refine ex_then ?_
       refine ex_then ?_
       refine ex_block ?_
       refine nx_then ?_
       refine cd_seq ?_
       refine cd_seq ?_
       refine cd_region ?_
       refine st_val (ro_assign (v := .int _ _) rfl) ?_
       refine st_nil ?_
       refine nx_then ?_
       refine cd_block ?_
       refine cd_loop (G := Int × Nat) [30, 31, 32, 33, 34, 35, 36, 37, 38, 39, 40, 41, 42, 43, 44, 45, 46, 47, 48, 49, 50] (fun (n, k) => [(3, .int .i64 n), (5, .int .i64 (k : Nat))]) (fun (n, k) w' => k ≤ K.length ∧ w1 = w') (fun (_, k) => K.length - k) ((n4, 0)) ⟨rfl, rfl, trivial⟩ ?_ ?_
       · exact ⟨Nat.zero_le _, rfl⟩
       rintro ⟨n5, k⟩ ρ10 w10 ⟨hkl, rfl⟩
       refine cd_seq ?_
       refine cd_seq ?_
       refine cd_region ?_
       refine st_val (ro_move (v := .int _ _) rfl) ?_
       refine st_val (ro_fieldAddr SesLaw_f25_1 rfl) ?_
       refine st_val (ro_load SesLaw_g23 rfl (by exact (hk1.from_ From.rfl_).rd 1 rfl)) ?_
       refine st_val (ro_len SesLaw_l23 rfl) ?_
       refine st_val (ro_lss rfl rfl) ?_
       refine st_val (ro_move (v := .bool _) rfl) ?_
       refine st_split (t := 35) rfl (fun Q11 => ?_) (fun Q11 => ?_)
       · (try first | replace Q11 := bn_t Q11 | replace Q11 := bn_f Q11)
         (try first | replace Q11 := bx_t Q11 | replace Q11 := bx_f Q11 | replace Q11 := be_t Q11 | replace Q11 := be_f Q11 | replace Q11 := of_decide_eq_true Q11 | replace Q11 := of_decide_eq_false Q11)
         first
          | (exfalso; first | omega | contradiction | (cases Q11; done))
          | skip
            refine st_unguard rfl ?_
            refine st_val (ro_move (v := .int _ _) rfl) ?_
            refine st_unguard rfl ?_
            refine st_val (ro_lss rfl rfl) ?_
            refine st_val (ro_pickT (v := .bool _) rfl rfl) ?_
            refine st_nil ?_
            refine nx_then ?_
            refine cd_cond rfl (fun Q12 => ?_) (fun Q12 => ?_)
            · (try first | replace Q12 := bn_t Q12 | replace Q12 := bn_f Q12)
              (try first | replace Q12 := bx_t Q12 | replace Q12 := bx_f Q12 | replace Q12 := be_t Q12 | replace Q12 := be_f Q12 | replace Q12 := of_decide_eq_true Q12 | replace Q12 := of_decide_eq_false Q12)
              obtain ⟨bb, ob, rfl, hct⟩ := hk (by omega)
              first
               | (exfalso; first | omega | contradiction | (cases Q12; done))
               | skip
                 refine cd_skip ?_
                 refine nx_then ?_
                 refine cd_seq ?_
                 refine cd_block ?_
                 refine cd_region ?_
                 refine st_val (ro_move (v := .int _ _) rfl) ?_
                 refine st_val (ro_fieldAddr SesLaw_f25_1 rfl) ?_
                 refine st_val (ro_load SesLaw_g23 rfl (by exact (hk1.from_ From.rfl_).rd 1 rfl)) ?_
                 refine st_val (ro_move (v := .int _ _) rfl) ?_
                 refine st_val (ro_indexAddrN SesLaw_e23 rfl rfl (by omega)) ?_
                 refine st_val (ro_fieldAddr SesLaw_f33_4 rfl) ?_
                 refine st_val (ro_fieldAddr SesLaw_f31_2 rfl) ?_
                 refine st_val (ro_load SesLaw_g29 rfl (by exact cellF (From.rfl_.next E1) (hct k (by omega) 6 _ rfl))) ?_
                 refine st_val (ro_len SesLaw_l29 rfl) ?_
                 refine st_val (ro_add rfl rfl) ?_
                 refine st_val (ro_assign (v := .int _ _) rfl) ?_
                 refine st_nil ?_
                 refine nx_block ?_
                 refine nx_then ?_
                 refine cd_region ?_
                 refine st_val (ro_move (v := .int _ _) rfl) ?_
                 refine st_val (ro_addN (b := 1) rfl rfl (by omega)) ?_
                 refine st_val (ro_assign (v := .int _ _) rfl) ?_
                 refine st_nil ?_
                 refine nx_cut ((_, k + 1)) ⟨rfl, (by first | rfl | (refine int_eq ?_; omega)), trivial⟩ (by (iterate 47 refine agr_cons rfl ?_); exact agr_rfl) ⟨?_, ?_⟩
                 · exact ⟨by omega, rfl⟩
                 · show _ - _ < _ - _; omega
            · (try first | replace Q12 := bn_t Q12 | replace Q12 := bn_f Q12)
              (try first | replace Q12 := bx_t Q12 | replace Q12 := bx_f Q12 | replace Q12 := be_t Q12 | replace Q12 := be_f Q12 | replace Q12 := of_decide_eq_true Q12 | replace Q12 := of_decide_eq_false Q12)
              first
               | (exfalso; first | omega | contradiction | (cases Q12; done))
               | skip
                 refine cd_exit ?_
                 refine ex_then ?_
                 refine ex_then ?_
                 refine ex_block ?_
                 refine nx_then ?_
                 refine cd_seq ?_
                 refine cd_region ?_
                 refine st_val (ro_move (v := .int _ _) rfl) ?_
                 refine st_val (ro_gtr rfl rfl) ?_
                 refine st_val (ro_move (v := .bool _) rfl) ?_
                 refine st_split (t := 53) rfl (fun Q13 => ?_) (fun Q13 => ?_)
                 · (try first | replace Q13 := bn_t Q13 | replace Q13 := bn_f Q13)
                   (try first | replace Q13 := bx_t Q13 | replace Q13 := bx_f Q13 | replace Q13 := be_t Q13 | replace Q13 := be_f Q13 | replace Q13 := of_decide_eq_true Q13 | replace Q13 := of_decide_eq_false Q13)
                   first
                    | (exfalso; first | omega | contradiction | (cases Q13; done))
                    | skip
                      refine st_gno rfl rfl ?_
                      refine st_gno rfl rfl ?_
                      refine st_gno rfl rfl ?_
                      refine st_gno rfl rfl ?_
                      refine st_val (ro_pickT (v := .bool _) rfl rfl) ?_
                      refine st_val (ro_assign (v := .bool _) rfl) ?_
                      refine st_nil ?_
                      refine nx_then ?_
                      refine cd_ret ?_
                      refine res1 (v := .bool _) rfl rfl ?_
                      exact ⟨⟨_, rfl⟩, (From.rfl_.next E1)⟩
                 · (try first | replace Q13 := bn_t Q13 | replace Q13 := bn_f Q13)
                   (try first | replace Q13 := bx_t Q13 | replace Q13 := bx_f Q13 | replace Q13 := be_t Q13 | replace Q13 := be_f Q13 | replace Q13 := of_decide_eq_true Q13 | replace Q13 := of_decide_eq_false Q13)
                   first
                    | (exfalso; first | omega | contradiction | (cases Q13; done))
                    | skip
                      refine st_unguard rfl ?_
                      refine st_val (ro_fieldAddr SesLaw_f25_1 rfl) ?_
                      refine st_unguard rfl ?_
                      refine st_val (ro_load SesLaw_g23 rfl (by exact (hk1.from_ From.rfl_).rd 1 rfl)) ?_
                      refine st_unguard rfl ?_
                      refine st_val (ro_len SesLaw_l23 rfl) ?_
                      refine st_unguard rfl ?_
                      refine st_val (ro_gtr rfl rfl) ?_
                      refine st_val (ro_pickF (v := .bool _) rfl rfl) ?_
                      refine st_val (ro_assign (v := .bool _) rfl) ?_
                      refine st_nil ?_
                      refine nx_then ?_
                      refine cd_ret ?_
                      refine res1 (v := .bool _) rfl rfl ?_
                      exact ⟨⟨_, rfl⟩, (From.rfl_.next E1)⟩
       · (try first | replace Q11 := bn_t Q11 | replace Q11 := bn_f Q11)
         (try first | replace Q11 := bx_t Q11 | replace Q11 := bx_f Q11 | replace Q11 := be_t Q11 | replace Q11 := be_f Q11 | replace Q11 := of_decide_eq_true Q11 | replace Q11 := of_decide_eq_false Q11)
         first
          | (exfalso; first | omega | contradiction | (cases Q11; done))
          | skip
            refine st_gno rfl rfl ?_
            refine st_gno rfl rfl ?_
            refine st_val (ro_pickF (v := .bool _) rfl rfl) ?_
            refine st_nil ?_
            refine nx_then ?_
            refine cd_condF rfl ?_
            refine cd_exit ?_
            refine ex_then ?_
            refine ex_then ?_
            refine ex_block ?_
            refine nx_then ?_
            refine cd_seq ?_
            refine cd_region ?_
            refine st_val (ro_move (v := .int _ _) rfl) ?_
            refine st_val (ro_gtr rfl rfl) ?_
            refine st_val (ro_move (v := .bool _) rfl) ?_
            refine st_split (t := 53) rfl (fun Q14 => ?_) (fun Q14 => ?_)
            · (try first | replace Q14 := bn_t Q14 | replace Q14 := bn_f Q14)
              (try first | replace Q14 := bx_t Q14 | replace Q14 := bx_f Q14 | replace Q14 := be_t Q14 | replace Q14 := be_f Q14 | replace Q14 := of_decide_eq_true Q14 | replace Q14 := of_decide_eq_false Q14)
              first
               | (exfalso; first | omega | contradiction | (cases Q14; done))
               | skip
                 refine st_gno rfl rfl ?_
                 refine st_gno rfl rfl ?_
                 refine st_gno rfl rfl ?_
                 refine st_gno rfl rfl ?_
                 refine st_val (ro_pickT (v := .bool _) rfl rfl) ?_
                 refine st_val (ro_assign (v := .bool _) rfl) ?_
                 refine st_nil ?_
                 refine nx_then ?_
                 refine cd_ret ?_
                 refine res1 (v := .bool _) rfl rfl ?_
                 exact ⟨⟨_, rfl⟩, (From.rfl_.next E1)⟩
            · (try first | replace Q14 := bn_t Q14 | replace Q14 := bn_f Q14)
              (try first | replace Q14 := bx_t Q14 | replace Q14 := bx_f Q14 | replace Q14 := be_t Q14 | replace Q14 := be_f Q14 | replace Q14 := of_decide_eq_true Q14 | replace Q14 := of_decide_eq_false Q14)
              first
               | (exfalso; first | omega | contradiction | (cases Q14; done))
               | skip
                 refine st_unguard rfl ?_
                 refine st_val (ro_fieldAddr SesLaw_f25_1 rfl) ?_
                 refine st_unguard rfl ?_
                 refine st_val (ro_load SesLaw_g23 rfl (by exact (hk1.from_ From.rfl_).rd 1 rfl)) ?_
                 refine st_unguard rfl ?_
                 refine st_val (ro_len SesLaw_l23 rfl) ?_
                 refine st_unguard rfl ?_
                 refine st_val (ro_gtr rfl rfl) ?_
                 refine st_val (ro_pickF (v := .bool _) rfl rfl) ?_
                 refine st_val (ro_assign (v := .bool _) rfl) ?_
                 refine st_nil ?_
                 refine nx_then ?_
                 refine cd_ret ?_
                 refine res1 (v := .bool _) rfl rfl ?_
                 exact ⟨⟨_, rfl⟩, (From.rfl_.next E1)⟩
set_option maxRecDepth 100000 in
set_option maxHeartbeats 3000000 in
theorem begins_law (A : Option Addr) (ca : Nat) (L : List Ses) (B : Option Addr) (cb : Nat) (K : List Act) (w : World) (hr : RowS w A L) (hk : RowT w B K) (hL : L.length * 64 ≤ 140737488351232) (hK : K.length * 72 ≤ 140737488351232) :
    Rt Try.prog 8 [.agg #[.slice A L.length ca, .slice B K.length cb]] w (fun v w' => v = .bool true ∧ From w w') := by
  refine enter (n := 73) Try.func8 rfl rfl rfl ?_
  refine cd_seq ?_
  refine cd_region ?_
  refine st_box (v := .agg _) rfl ?_
  intro b1 w1 E1 hb1 hk1
  refine st_val (ro_assign (v := .bool _) rfl) ?_
  refine st_nil ?_
  refine nx_then ?_
  refine cd_seq ?_
  refine cd_seq ?_
  refine cd_region ?_
  refine st_val (ro_loadA (cs := [_, _]) SesLaw_g25 SesLaw_z25 rfl (by exact hk1.whole)) ?_
  refine st_call SesLaw_k9 (heavy_any A ca L B cb K _ (hr.from_ (From.rfl_.next E1)) (hk.from_ (From.rfl_.next E1)) hL hK) ?_
  rintro v12 w2 ⟨⟨b12, rfl⟩, E12⟩
  replace hk1 := hk1.from_ (From.rfl_.next E12)
  refine st_val (ro_move (v := .bool _) rfl) ?_
  refine st_split (t := 13) rfl (fun Q3 => ?_) (fun Q3 => ?_)
  · (try first | replace Q3 := bn_t Q3 | replace Q3 := bn_f Q3)
    (try first | replace Q3 := bx_t Q3 | replace Q3 := bx_f Q3 | replace Q3 := be_t Q3 | replace Q3 := be_f Q3 | replace Q3 := of_decide_eq_true Q3 | replace Q3 := of_decide_eq_false Q3)
    first
     | (exfalso; first | omega | contradiction | (cases Q3; done))
     | skip
       refine st_gno rfl rfl ?_
       refine st_gno rfl rfl ?_
       refine st_gno rfl rfl ?_
       refine st_gno rfl rfl ?_
       refine st_val (ro_pickT (v := .bool _) rfl rfl) ?_
       refine st_nil ?_
       refine nx_then ?_
       refine cd_condT rfl ?_
       refine cd_seq ?_
       refine cd_region ?_
       refine st_val (ro_assign (v := .bool _) rfl) ?_
       refine st_nil ?_
       refine nx_then ?_
       refine cd_ret ?_
       refine rt_then ?_
       refine res1 (v := .bool _) rfl rfl ?_
       exact ⟨rfl, ((From.rfl_.next E1).next E12)⟩
  · (try first | replace Q3 := bn_t Q3 | replace Q3 := bn_f Q3)
    (try first | replace Q3 := bx_t Q3 | replace Q3 := bx_f Q3 | replace Q3 := be_t Q3 | replace Q3 := be_f Q3 | replace Q3 := of_decide_eq_true Q3 | replace Q3 := of_decide_eq_false Q3)
    first
     | (exfalso; first | omega | contradiction | (cases Q3; done))
     | skip
       refine st_unguard rfl ?_
       refine st_val (ro_fieldAddr SesLaw_f25_0 rfl) ?_
       refine st_unguard rfl ?_
       refine st_val (ro_load SesLaw_g22 rfl (by exact (hk1.from_ From.rfl_).rd 0 rfl)) ?_
       refine st_unguard rfl ?_
       refine st_call SesLaw_k11 (may_rt A ca L _ (hr.from_ ((From.rfl_.next E1).next E12)) (by omega)) ?_
       rintro v16 w4 ⟨⟨b16, rfl, hb16⟩, E16⟩
       replace hk1 := hk1.from_ (From.rfl_.next E16)
       refine st_unguard rfl ?_
       refine st_val (ro_not rfl) ?_
       refine st_val (ro_pickF (v := .bool _) rfl rfl) ?_
       refine st_nil ?_
       refine nx_then ?_
       refine cd_cond rfl (fun Q5 => ?_) (fun Q5 => ?_)
       · (try first | replace Q5 := bn_t Q5 | replace Q5 := bn_f Q5)
         (try first | replace Q5 := bx_t Q5 | replace Q5 := bx_f Q5 | replace Q5 := be_t Q5 | replace Q5 := be_f Q5 | replace Q5 := of_decide_eq_true Q5 | replace Q5 := of_decide_eq_false Q5)
         first
          | (exfalso; first | omega | contradiction | (cases Q5; done))
          | skip
            refine cd_seq ?_
            refine cd_region ?_
            refine st_val (ro_assign (v := .bool _) rfl) ?_
            refine st_nil ?_
            refine nx_then ?_
            refine cd_ret ?_
            refine rt_then ?_
            refine res1 (v := .bool _) rfl rfl ?_
            exact ⟨rfl, (((From.rfl_.next E1).next E12).next E16)⟩
       · (try first | replace Q5 := bn_t Q5 | replace Q5 := bn_f Q5)
         (try first | replace Q5 := bx_t Q5 | replace Q5 := bx_f Q5 | replace Q5 := be_t Q5 | replace Q5 := be_f Q5 | replace Q5 := of_decide_eq_true Q5 | replace Q5 := of_decide_eq_false Q5)
         have hv := hb16 (by simpa using Q5)
         first
          | (exfalso; first | omega | contradiction | (cases Q5; done))
          | skip
            refine cd_skip ?_
            refine nx_then ?_
            refine cd_seq ?_
            refine cd_seq ?_
            refine cd_region ?_
            refine st_val (ro_assign (v := .int _ _) rfl) ?_
            refine st_nil ?_
            refine nx_then ?_
            refine cd_block ?_
            refine cd_loop (G := Nat) [2, 4, 5, 6, 7, 8, 9, 10, 19, 20, 21, 22, 23, 24, 25, 26, 27, 28, 29, 30, 31, 32, 33, 34, 35, 36, 37, 38, 39, 40, 41, 42, 43, 44, 45, 46, 47, 48, 49, 50, 51, 52, 53, 54, 55, 56, 57, 58, 59, 60, 61, 62, 63, 64, 65, 66, 67, 68, 69, 70, 71] (fun k => [(3, .int .i64 (k : Nat))]) (fun k w' => k ≤ K.length ∧ From w w' ∧ Blk w' b1 25 #[.slice A L.length ca, .slice B K.length cb]) (fun k => K.length - k) (0) ⟨rfl, trivial⟩ ?_ ?_
            · exact ⟨Nat.zero_le _, (((From.rfl_.next E1).next E12).next E16), hk1.from_ From.rfl_⟩
            rintro k ρ6 w6 ⟨hkl, hB, P1⟩
            refine cd_seq ?_
            refine cd_seq ?_
            refine cd_region ?_
            refine st_val (ro_move (v := .int _ _) rfl) ?_
            refine st_val (ro_fieldAddr SesLaw_f25_1 rfl) ?_
            refine st_val (ro_load SesLaw_g23 rfl (by exact P1.rd 1 rfl)) ?_
            refine st_val (ro_len SesLaw_l23 rfl) ?_
            refine st_val (ro_lss rfl rfl) ?_
            refine st_val (ro_move (v := .bool _) rfl) ?_
            refine st_split (t := 24) rfl (fun Q7 => ?_) (fun Q7 => ?_)
            · (try first | replace Q7 := bn_t Q7 | replace Q7 := bn_f Q7)
              (try first | replace Q7 := bx_t Q7 | replace Q7 := bx_f Q7 | replace Q7 := be_t Q7 | replace Q7 := be_f Q7 | replace Q7 := of_decide_eq_true Q7 | replace Q7 := of_decide_eq_false Q7)
              first
               | (exfalso; first | omega | contradiction | (cases Q7; done))
               | skip
                 refine st_unguard rfl ?_
                 refine st_val (ro_move (v := .int _ _) rfl) ?_
                 refine st_unguard rfl ?_
                 refine st_val (ro_lss rfl rfl) ?_
                 refine st_val (ro_pickT (v := .bool _) rfl rfl) ?_
                 refine st_nil ?_
                 refine nx_then ?_
                 refine cd_cond rfl (fun Q8 => ?_) (fun Q8 => ?_)
                 · (try first | replace Q8 := bn_t Q8 | replace Q8 := bn_f Q8)
                   (try first | replace Q8 := bx_t Q8 | replace Q8 := bx_f Q8 | replace Q8 := be_t Q8 | replace Q8 := be_f Q8 | replace Q8 := of_decide_eq_true Q8 | replace Q8 := of_decide_eq_false Q8)
                   obtain ⟨bb, ob, rfl, hct⟩ := hk (by omega)
                   first
                    | (exfalso; first | omega | contradiction | (cases Q8; done))
                    | skip
                      refine cd_skip ?_
                      refine nx_then ?_
                      refine cd_seq ?_
                      refine cd_block ?_
                      refine cd_seq ?_
                      refine cd_region ?_
                      refine st_val (ro_fieldAddr SesLaw_f25_1 rfl) ?_
                      refine st_val (ro_load SesLaw_g23 rfl (by exact P1.rd 1 rfl)) ?_
                      refine st_val (ro_move (v := .int _ _) rfl) ?_
                      refine st_val (ro_indexAddrN SesLaw_e23 rfl rfl (by omega)) ?_
                      refine st_val (ro_loadA (cs := [_, _, _, _, _, _, _]) SesLaw_g33 SesLaw_z33 rfl (by exact rangeF hB (hct k (by omega)))) ?_
                      have hl1 := P1.lt
                      have hB4 : From w w6 := hB
                      refine st_alloc SesLaw_o33 ?_
                      intro b4 w9 E4 hb4 hk4
                      refine st_putW (vs := [_, _, _, _, _, _, _]) SesLaw_z33 rfl rfl (by simp [Value.oneCell']) (hk4) rfl ?_
                      intro w10 O6 P6
                      replace P1 := (P1.from_ E4).only O6 (by omega)
                      refine st_nil ?_
                      refine nx_then ?_
                      refine cd_seq ?_
                      refine cd_region ?_
                      refine st_val (ro_fieldAddr SesLaw_f25_0 rfl) ?_
                      refine st_val (ro_load SesLaw_g22 rfl (by exact P1.rd 0 rfl)) ?_
                      refine st_val (ro_fieldAddr SesLaw_f33_1 rfl) ?_
                      refine st_val (ro_load SesLaw_g3 rfl (by exact (P6.from_ From.rfl_).rd 1 rfl)) ?_
                      refine st_val (ro_fieldAddr SesLaw_f33_2 rfl) ?_
                      refine st_val (ro_load SesLaw_g3 rfl (by exact (P6.from_ From.rfl_).rd 2 rfl)) ?_
                      refine st_call SesLaw_k16 (begin_rt A ca L _ (hr.from_ ((hB.next E4).only O6 (by rw [hb4]; exact hB4.size))) (by omega) K[k].c K[k].s hv) ?_
                      rintro v42 w11 ⟨hg42, E42⟩
                      replace P1 := P1.from_ (From.rfl_.next E42)
                      replace P6 := P6.from_ (From.rfl_.next E42)
                      obtain ⟨e42, n42, x42, r42, rfl⟩ := beg_lit hg42
                      refine st_val (ro_move (v := .tuple _) rfl) ?_
                      refine st_val (ro_extract rfl rfl) ?_
                      refine st_val (ro_extract rfl rfl) ?_
                      refine st_val (ro_extract rfl rfl) ?_
                      have hl1 := P1.lt
                      have hl6 := P6.lt
                      have hB5 : From w w11 := (((hB.next E4).only O6 (by rw [hb4]; exact hB4.size)).next E42)
                      refine st_alloc SesLaw_o31 ?_
                      intro b5 w12 E5 hb5 hk5
                      refine st_putW (vs := [_, _, _]) SesLaw_z31 rfl rfl (by simp [Value.oneCell']) (hk5) rfl ?_
                      intro w13 O7 P7
                      replace P1 := (P1.from_ E5).only O7 (by omega)
                      replace P6 := (P6.from_ E5).only O7 (by omega)
                      refine st_val (ro_assign (v := .bool _) rfl) ?_
                      refine st_val (ro_assign (v := .int _ _) rfl) ?_
                      refine st_nil ?_
                      refine nx_then ?_
                      refine cd_seq ?_
                      refine cd_region ?_
                      refine st_val (ro_fieldAddr SesLaw_f25_0 rfl) ?_
                      refine st_val (ro_load SesLaw_g22 rfl (by exact P1.rd 0 rfl)) ?_
                      refine st_val (ro_fieldAddr SesLaw_f33_1 rfl) ?_
                      refine st_val (ro_load SesLaw_g3 rfl (by exact (P6.from_ From.rfl_).rd 1 rfl)) ?_
                      refine st_val (ro_fieldAddr SesLaw_f33_2 rfl) ?_
                      refine st_val (ro_load SesLaw_g3 rfl (by exact (P6.from_ From.rfl_).rd 2 rfl)) ?_
                      refine st_call SesLaw_k15 (refBegin_rt A ca L _ (hr.from_ (((((hB.next E4).only O6 (by rw [hb4]; exact hB4.size)).next E42).next E5).only O7 (by rw [hb5]; exact hB5.size))) (by omega) K[k].c K[k].s) ?_
                      rintro v53 w14 ⟨hg53, E53⟩
                      replace P1 := P1.from_ (From.rfl_.next E53)
                      replace P7 := P7.from_ (From.rfl_.next E53)
                      obtain ⟨e53, n53, H53, hl53, hc53, x53, r53, rfl⟩ := beg_litR hg53
                      obtain ⟨rfl, rfl, rfl, rfl, hhl⟩ := both_eq hv hg42 hg53
                      refine st_val (ro_move (v := .tuple _) rfl) ?_
                      refine st_val (ro_extract rfl rfl) ?_
                      refine st_val (ro_extract rfl rfl) ?_
                      refine st_val (ro_extract rfl rfl) ?_
                      have hl1 := P1.lt
                      have hl7 := P7.lt
                      have hB8 : From w w14 := ((((((hB.next E4).only O6 (by rw [hb4]; exact hB4.size)).next E42).next E5).only O7 (by rw [hb5]; exact hB5.size)).next E53)
                      refine st_alloc SesLaw_o31 ?_
                      intro b8 w15 E8 hb8 hk8
                      refine st_putW (vs := [_, _, _]) SesLaw_z31 rfl rfl (by simp [Value.oneCell']) (hk8) rfl ?_
                      intro w16 O8 P8
                      replace P1 := (P1.from_ E8).only O8 (by omega)
                      replace P7 := (P7.from_ E8).only O8 (by omega)
                      refine st_val (ro_assign (v := .bool _) rfl) ?_
                      refine st_val (ro_assign (v := .int _ _) rfl) ?_
                      refine st_nil ?_
                      refine nx_then ?_
                      refine cd_seq ?_
                      refine cd_region ?_
                      refine st_val (ro_move (v := .int _ _) rfl) ?_
                      refine st_call SesLaw_k12 (num_any _ _) ?_
                      rintro v58 w17 ⟨rfl, rfl⟩
                      refine st_val (ro_move (v := .int _ _) rfl) ?_
                      refine st_val (ro_bf (ro_neq rfl rfl) (bne_self_eq_false _)) ?_
                      refine st_val (ro_move (v := .bool _) rfl) ?_
                      refine st_unguard rfl ?_
                      refine st_val (ro_move (v := .bool _) rfl) ?_
                      refine st_unguard rfl ?_
                      refine st_val (ro_move (v := .bool _) rfl) ?_
                      refine st_unguard rfl ?_
                      refine st_val (ro_bf (ro_neqB (by kernel_rfl) rfl rfl) (nb_self _)) ?_
                      refine st_val (ro_pickF (v := .bool _) rfl rfl) ?_
                      refine st_val (ro_move (v := .bool _) rfl) ?_
                      refine st_unguard rfl ?_
                      refine st_val (ro_loadA (cs := [_, _, _]) SesLaw_g31 SesLaw_z31 rfl (by exact (P7.from_ From.rfl_).whole)) ?_
                      refine st_unguard rfl ?_
                      refine st_val (ro_loadA (cs := [_, _, _]) SesLaw_g31 SesLaw_z31 rfl (by exact (P8.from_ From.rfl_).whole)) ?_
                      refine st_unguard rfl ?_
                      refine st_call SesLaw_k17 (eqR _ _ none _ 0 _ _ _ hhl) ?_
                      rintro v69 w18 ⟨rfl, E69⟩
                      refine st_unguard rfl ?_
                      refine st_val (ro_not rfl) ?_
                      refine st_val (ro_pickF (v := .bool _) rfl rfl) ?_
                      refine st_nil ?_
                      refine nx_then ?_
                      refine cd_condF rfl ?_
                      refine cd_skip ?_
                      refine nx_block ?_
                      refine nx_then ?_
                      refine cd_region ?_
                      refine st_val (ro_move (v := .int _ _) rfl) ?_
                      refine st_val (ro_addN (b := 1) rfl rfl (by omega)) ?_
                      refine st_val (ro_assign (v := .int _ _) rfl) ?_
                      refine st_nil ?_
                      refine nx_cut (k + 1) ⟨(by first | rfl | (refine int_eq ?_; omega)), trivial⟩ (by (iterate 124 refine agr_cons rfl ?_); exact agr_rfl) ⟨?_, ?_⟩
                      · exact ⟨by omega, (((((((((hB.next E4).only O6 (by rw [hb4]; exact hB4.size)).next E42).next E5).only O7 (by rw [hb5]; exact hB5.size)).next E53).next E8).only O8 (by rw [hb8]; exact hB8.size)).next E69), P1.from_ (From.rfl_.next E69)⟩
                      · omega
                 · (try first | replace Q8 := bn_t Q8 | replace Q8 := bn_f Q8)
                   (try first | replace Q8 := bx_t Q8 | replace Q8 := bx_f Q8 | replace Q8 := be_t Q8 | replace Q8 := be_f Q8 | replace Q8 := of_decide_eq_true Q8 | replace Q8 := of_decide_eq_false Q8)
                   first
                    | (exfalso; first | omega | contradiction | (cases Q8; done))
                    | skip
                      refine cd_exit ?_
                      refine ex_then ?_
                      refine ex_then ?_
                      refine ex_block ?_
                      refine nx_then ?_
                      refine cd_seq ?_
                      refine cd_region ?_
                      refine st_call SesLaw_k28 (wakes_any _) ?_
                      rintro v72 w19 ⟨rfl, E72⟩
                      refine st_val (ro_assign (v := .bool _) rfl) ?_
                      refine st_nil ?_
                      refine nx_then ?_
                      refine cd_ret ?_
                      refine res1 (v := .bool _) rfl rfl ?_
                      exact ⟨rfl, (hB.next E72)⟩
            · (try first | replace Q7 := bn_t Q7 | replace Q7 := bn_f Q7)
              (try first | replace Q7 := bx_t Q7 | replace Q7 := bx_f Q7 | replace Q7 := be_t Q7 | replace Q7 := be_f Q7 | replace Q7 := of_decide_eq_true Q7 | replace Q7 := of_decide_eq_false Q7)
              first
               | (exfalso; first | omega | contradiction | (cases Q7; done))
               | skip
                 refine st_gno rfl rfl ?_
                 refine st_gno rfl rfl ?_
                 refine st_val (ro_pickF (v := .bool _) rfl rfl) ?_
                 refine st_nil ?_
                 refine nx_then ?_
                 refine cd_condF rfl ?_
                 refine cd_exit ?_
                 refine ex_then ?_
                 refine ex_then ?_
                 refine ex_block ?_
                 refine nx_then ?_
                 refine cd_seq ?_
                 refine cd_region ?_
                 refine st_call SesLaw_k28 (wakes_any _) ?_
                 rintro v72 w20 ⟨rfl, E72⟩
                 refine st_val (ro_assign (v := .bool _) rfl) ?_
                 refine st_nil ?_
                 refine nx_then ?_
                 refine cd_ret ?_
                 refine res1 (v := .bool _) rfl rfl ?_
                 exact ⟨rfl, (hB.next E72)⟩
theorem begins_arg (cs : Array Value) (x : scrT.den) (w : World) (hs : cs.size = 2) (h : scrT.At w (fun j => cs[j]?) x) : Rt Try.prog 8 [.agg cs] w fun v w' => v = .bool true ∧ From w w' := by
  obtain ⟨h0, h1, _⟩ := h
  obtain ⟨A, ca, L, c0, r0, l0⟩ := at_ses h0
  obtain ⟨B, cb, K, c1, r1, l1⟩ := at_acts h1
  obtain rfl : cs = #[.slice A L.length ca, .slice B K.length cb] := by
    apply Array.ext_getElem?
    intro i
    match i with
    | 0 => exact c0
    | 1 => exact c1
    | i + 2 => rw [Array.getElem?_eq_none (by omega), Array.getElem?_eq_none (by simp)]
  exact begins_law A ca L B cb K w r0 r1 l0 l1
set_option maxRecDepth 100000 in
theorem SessionBegins_lifted (os : Os) (started : os.Started) (H : Type) (enc : TypeId × Value → H) :
    ReturnsInHanded {} Try.checked os 8 .any (Rows.sessionBeginsSpec.pre6 enc Try.prog Try.f8 Rows.sessionBeginsRow.domain false) (Rows.sessionBeginsSpec.post enc Try.prog Try.f8 false true false false) := by
  refine returnsInHanded_of_change_sized (C := Try.checked) Try.own started (by kernel_rfl) Try.func8
    (ChangeSpec.witness6 (enc := enc) (C := Try.checked) false ⟨#[], #[.agg #[.slice none 0 0, .slice none 0 0]], []⟩ 8 (by kernel_rfl) (by kernel_rfl) (by kernel_rfl) (by kernel_rfl)) ?_
  intro W base args ds gs before hval hW _ hsz _
  exact law_step 8 Try.f8 25 4 Rows.sessionBeginsSpec Try.params8 (by kernel_rfl) Try.underlying4 rfl (fun _ => rfl) (by kernel_rfl) (of_decide_eq_true (by kernel_rfl)) (walk_struct (.sl sesT) (.pr (.sl actT) .unit) (by kernel_rfl) begins_arg) W base args ds gs before hval hW hsz

theorem SessionBegins_holds : Rows.SessionBeginsSaid :=
  OpenClaim.holds_of_wide 8 Try.f8 rfl rfl rfl rfl rfl rfl rfl ⟨rfl, rfl, rfl, rfl, rfl⟩ rfl rfl rfl rfl rfl (by kernel_rfl) Try.func8 (by kernel_rfl)
    (of_decide_eq_true (by kernel_rfl)) (by unfold Func.isWrapper; first | (rw [if_pos (by decide +kernel)]; kernel_rfl) | (rw [if_neg (by decide +kernel)]; exact ⟨rfl, rfl⟩))
    (fun os started H enc _ => SessionBegins_lifted os started H enc)
#print axioms SessionBegins_holds

end Go.Proofs.Ytbikemhokgcboaa
