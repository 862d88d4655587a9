/- The law EntriesCompacts. -/
import Derived.Test.YtnnknoohhoifbaaEntCompact
import Derived.Test.YtnnknoohhoifbaaEntHelp
import Derived.Test.YtnnknoohhoifbaaFast7
namespace Go.Proofs.Ytnnknoohhoifbaa
open Go.RowKit
open Go.ChangeShapes Go.WideShapes Go.ChangeAt
theorem EntCompacts_e22 : elemQ Try.prog 22 = some (27, 7) := by kernel_rfl
theorem EntCompacts_l22 : (elemQ Try.prog 22).isSome = true := by kernel_rfl
theorem EntCompacts_g27 : aggQ Try.prog 27 = some true := by kernel_rfl
theorem EntCompacts_z27 : sizeQ Try.prog 27 = some 7 := by kernel_rfl
theorem EntCompacts_k37 : callable Try.prog 37 = true := by kernel_rfl
theorem EntCompacts_f27_0 : fieldQ Try.prog 27 0 = some 0 := by kernel_rfl
theorem EntCompacts_f25_0 : fieldQ Try.prog 25 0 = some 0 := by kernel_rfl
theorem EntCompacts_g3 : aggQ Try.prog 3 = some false := by kernel_rfl
theorem EntCompacts_g25 : aggQ Try.prog 25 = some true := by kernel_rfl
theorem EntCompacts_z25 : sizeQ Try.prog 25 = some 3 := by kernel_rfl
theorem EntCompacts_k25 : callable Try.prog 25 = true := by kernel_rfl
theorem EntCompacts_f25_2 : fieldQ Try.prog 25 2 = some 2 := by kernel_rfl
theorem EntCompacts_g23 : aggQ Try.prog 23 = some false := by kernel_rfl
theorem EntCompacts_l23 : (elemQ Try.prog 23).isSome = true := by kernel_rfl
theorem EntCompacts_k31 : callable Try.prog 31 = true := by kernel_rfl
theorem EntCompacts_o25 : zeroQ Try.prog 25 = some (.agg #[.int .i64 0, .int .i64 0, .slice none 0 0]) := by kernel_rfl
theorem EntCompacts_k26 : callable Try.prog 26 = true := by kernel_rfl
theorem EntCompacts_k23 : callable Try.prog 23 = true := by kernel_rfl
theorem EntCompacts_f25_1 : fieldQ Try.prog 25 1 = some 1 := by kernel_rfl
theorem EntCompacts_k35 : callable Try.prog 35 = true := by kernel_rfl
theorem termI_cons (B T : Int) (e : Ent) (r : List Ent) (k : Nat) : termI B T (e :: r) (B + ((k + 1 : Nat) : Int)) = termI (B + 1) e.t r (B + 1 + (k : Int)) := by
  unfold termI
  rw [if_neg (by omega)]
  cases k with
  | zero => rw [if_pos (by omega)]; have : (B + ((0 + 1 : Nat) : Int) - B - 1).toNat = 0 := by omega
            rw [this]; rfl
  | succ k =>
    rw [if_neg (by omega)]
    have h1 : (B + ((k + 1 + 1 : Nat) : Int) - B - 1).toNat = k + 1 := by omega
    have h2 : (B + 1 + ((k + 1 : Nat) : Int) - (B + 1) - 1).toNat = k := by omega
    rw [h1, h2]; rfl
theorem termI_zero (B T : Int) (xs : List Ent) : termI B T xs (B + ((0 : Nat) : Int)) = T := by unfold termI; rw [if_pos (by omega)]
theorem lastT_cons (T : Int) (e : Ent) (r : List Ent) : lastT T (e :: r) = lastT e.t r := by
  unfold lastT
  cases r with
  | nil => rfl
  | cons f r => rw [List.getLast?_cons_cons, List.getLast?_eq_getElem?, List.getElem?_eq_getElem (by simp)]
theorem runs_drop : ∀ (xs : List Ent) (k : Nat) (B T : Int), k ≤ xs.length → runs xs B T = true → inb 0 1099511627775 T = true →
    runs (xs.drop k) (B + k) (termI B T xs (B + k)) = true ∧ inb 0 1099511627775 (termI B T xs (B + k)) = true ∧ lastT (termI B T xs (B + k)) (xs.drop k) = lastT T xs
  | xs, 0, B, T, _, h, hT => by
    rw [termI_zero, List.drop_zero]
    exact ⟨by simpa using h, hT, rfl⟩
  | [], k + 1, _, _, hk, _, _ => by simp at hk
  | e :: r, k + 1, B, T, hk, h, hT => by
    simp only [runs, Bool.and_eq_true] at h
    obtain ⟨h1, h2⟩ := h
    have he : inb 0 1099511627775 e.t = true := by
      simp only [entOk, Bool.and_eq_true, decide_eq_true_eq] at h1
      have := inb_true h1.1.2
      exact inb_mk ⟨by omega, this.2⟩
    have ih := runs_drop r k (B + 1) e.t (by simpa using hk) h2 he
    rw [termI_cons, List.drop_succ_cons, lastT_cons]
    have e1 : B + ((k + 1 : Nat) : Int) = B + 1 + (k : Int) := by omega
    rw [e1]
    exact ih
theorem may_drop {B T : Int} {xs : List Ent} (h : mayLog B T xs = true) {k : Nat} (hk : k ≤ xs.length) (hB : B + k ≤ 1099511625728) :
    mayLog (B + k) (termI B T xs (B + k)) (xs.drop k) = true ∧ lastT (termI B T xs (B + k)) (xs.drop k) = lastT T xs := by
  obtain ⟨_, h0, h1, h2⟩ := may_last h
  simp only [mayLog, Bool.and_eq_true, decide_eq_true_eq] at h ⊢
  obtain ⟨⟨⟨a1, a2⟩, a3⟩, a4⟩ := h
  obtain ⟨b1, b2, b3⟩ := runs_drop xs k B T hk a4 a2
  exact ⟨⟨⟨⟨inb_mk ⟨by omega, hB⟩, b2⟩, by rw [List.length_drop]; omega⟩, b1⟩, b3⟩
theorem last_drop {B T : Int} {xs : List Ent} (h : mayLog B T xs = true) {k : Nat} (hk : k ≤ xs.length) (hB : B + k ≤ 1099511625728) : lastV (B + k) (termI B T xs (B + k)) (xs.drop k) = lastV B T xs := by
  obtain ⟨h1, h2⟩ := may_drop h hk hB
  obtain ⟨a1, _⟩ := may_last h
  obtain ⟨b1, _⟩ := may_last h1
  unfold lastV
  rw [if_pos h, if_pos h1, a1, b1, h2, List.length_drop]
  have : B + (k : Int) + ((xs.length - k : Nat) : Int) = B + (xs.length : Int) := by omega
  rw [this]
/-- Compact at an index that the log holds, and elsewhere -/
theorem compact_in (B T i : Int) (k : Nat) (A : Option Addr) (n c : Nat) (xs : List Ent) (w : World) (h : Ents w (.slice A n c) xs) (hm : mayLog B T xs = true) (hi : i = B + k) (hk0 : 0 < k) (hk : k ≤ xs.length) (hB : i ≤ 1099511625728) :
    Rt Try.prog 31 [.agg #[.int .i64 B, .int .i64 T, .slice A n c], .int .i64 i] w fun v w' => ∃ A' c', v = .tuple #[.agg #[.int .i64 i, .int .i64 (termI B T xs i), .slice A' (xs.drop k).length c'], .int .i64 0] ∧ Ents w' (.slice A' (xs.drop k).length c') (xs.drop k) ∧ From w w' := by
  subst hi
  obtain ⟨hl, _⟩ := may_last hm
  have hc : coErr B T xs (B + k) = 0 := by unfold coErr; rw [if_pos hm, hl, if_pos (by omega)]
  refine Rt.mono (compact_rt B T (B + k) _ xs w h) fun v w' ⟨L, hv, hg, hF⟩ => ?_
  obtain ⟨A', c', hL, ho⟩ := hg.2 hc
  have hkk : (B + (k : Int) - B).toNat = k := by omega
  rw [hkk] at hL ho
  exact ⟨A', c', by rw [hv, hL, hc], Ents.of_own ho rfl, hF⟩
theorem compact_out (B T i : Int) (A : Option Addr) (n c : Nat) (xs : List Ent) (w : World) (h : Ents w (.slice A n c) xs) (hm : mayLog B T xs = true) (hi : i < B + 1 ∨ B + xs.length < i) :
    Rt Try.prog 31 [.agg #[.int .i64 B, .int .i64 T, .slice A n c], .int .i64 i] w fun v w' => v = .tuple #[.agg #[.int .i64 0, .int .i64 0, .slice none 0 0], .int .i64 1] ∧ From w w' := by
  obtain ⟨hl, _⟩ := may_last hm
  have hc : coErr B T xs i = 1 := by unfold coErr; rw [if_pos hm, hl, if_neg (by omega)]
  refine Rt.mono (compact_rt B T i _ xs w h) fun v w' ⟨L, hv, hg, hF⟩ => ?_
  have hL := hg.1 (by rw [hc]; decide)
  exact ⟨by rw [hv, hL, hc]; rfl, hF⟩
theorem last_rt (B T : Int) (A : Option Addr) (n c : Nat) (xs : List Ent) (w : World) (h : Ents w (.slice A n c) xs) (hm : mayLog B T xs = true) :
    Rt Try.prog 25 [.agg #[.int .i64 B, .int .i64 T, .slice A n c]] w fun v w' => v = .tuple #[.int .i64 (lastI B xs), .int .i64 (lastT T xs), .int .i64 0] ∧ From w w' :=
  Rt.mono (Rt.of (last_any B T _ xs w h)) fun v w' h => ⟨by rw [h.1]; unfold lastV; rw [if_pos hm], h.2⟩
theorem term_rt (B T i : Int) (A : Option Addr) (n c : Nat) (xs : List Ent) (w : World) (h : Ents w (.slice A n c) xs) (hm : mayLog B T xs = true) (hi : B ≤ i ∧ i ≤ lastI B xs) :
    Rt Try.prog 26 [.agg #[.int .i64 B, .int .i64 T, .slice A n c], .int .i64 i] w fun v w' => v = .tuple #[.int .i64 (termI B T xs i), .int .i64 0] ∧ From w w' :=
  Rt.mono (Rt.of (term_any B T i _ xs w h)) fun v w' h => ⟨by rw [h.1]; unfold termV; rw [if_pos hm, if_pos hi], h.2⟩
theorem ok_rt (B T I M N : Int) (A E : Option Addr) (n c m d : Nat) (xs es : List Ent) (w : World) (h : Ents w (.slice A n c) xs) (he : Ents w (.slice E m d) es) (hok : ∀ e ∈ xs, e.Ok) (hlen : xs.length * 32 ≤ 140737488351232) (hok2 : ∀ e ∈ es, e.Ok) (hlen2 : es.length * 32 ≤ 140737488351232) :
    Rt Try.prog 37 [.agg #[.int .i64 B, .int .i64 T, .slice A n c, .int .i64 I, .int .i64 M, .slice E m d, .int .i64 N]] w fun v w' => ∃ b : Bool, v = .bool b ∧ (b = true → mayLog B T xs = true ∧ xs.length < 200 ∧ es.length ≤ 600) ∧ From w w' :=
  Calls.mono (ok_any B T I M N _ _ xs es w h he hok hlen hok2 hlen2) fun e w' ⟨b, he, h1, h2⟩ => ⟨.bool b, he, b, rfl, h1, h2⟩
theorem AskAt.all {w : World} {b o : Nat} {B T I M N : Int} {V E : Value} {xs es : List Ent} (h : AskAt w b o B T I M N V E xs es) : w.rangeAt b o [.int .i64 B, .int .i64 T, V, .int .i64 I, .int .i64 M, E, .int .i64 N] := fun j v hv => by
  match j, hv with
  | 0, hv => cases hv; exact h.c0
  | 1, hv => cases hv; exact h.c1
  | 2, hv => cases hv; exact h.c2
  | 3, hv => cases hv; exact h.c3
  | 4, hv => cases hv; exact h.c4
  | 5, hv => cases hv; exact h.c5
  | 6, hv => cases hv; exact h.c6
theorem AskAt.rlog {w : World} {b o : Nat} {B T I M N : Int} {V E : Value} {xs es : List Ent} (h : AskAt w b o B T I M N V E xs es) : w.rangeAt b o [.int .i64 B, .int .i64 T, V] := fun j v hv => by
  match j, hv with
  | 0, hv => cases hv; exact h.c0
  | 1, hv => cases hv; exact h.c1
  | 2, hv => cases hv; exact h.c2
theorem walk_rt {H : Type} {enc : TypeId × Value → H} {F : FuncId} (any : ∀ (A : Option Addr) (n cap : Nat) (w : World), n ≤ 9223372036854775807 → Asks w A n → Rt Try.prog F [.slice A n cap] w fun v w' => v = .bool true ∧ From w w')
    (W : World) (base : Nat) (v : Value) (d : DataW H) (p : List MemPlace) (hv : Value.okWide Try.prog W .any base 22 v)
    (h : DataW.Trod enc Try.prog W 0 (fun _ => true) true 22 v d p) (hsz : ∀ n ∈ d.weights Try.prog 22, n ≤ 140737488351232) :
    Calls Try.prog F #[v] W fun e W' => e = .returned (.bool true) ∧ From W W' :=
  walk_of (fun A n cap w hn hE => Rt.to (any A n cap w hn hE)) W base v d p hv h hsz
set_option maxRecDepth 100000 in
set_option maxHeartbeats 4000000 in
theorem compacts_law (A : Option Addr) (n cap : Nat) (w : World) (hn : n ≤ 9223372036854775807) (hE : Asks w A n) :
    Rt Try.prog 10 [.slice A n cap] w (fun v w' => v = .bool true ∧ From w w') := by
  refine enter (n := 189) Try.func10 rfl rfl rfl ?_
  refine cd_seq ?_
  refine cd_region ?_
  refine st_val (ro_assign (v := .bool _) rfl) ?_
  refine st_nil ?_
  refine nx_then ?_
  refine cd_seq ?_
  refine cd_seq ?_
  refine cd_region ?_
  refine st_val (ro_assign (v := .int _ _) rfl) ?_
  refine st_nil ?_
  refine nx_then ?_
  refine cd_block ?_
  refine cd_loop (G := Nat) [2, 4, 5, 6, 7, 8, 9, 10, 11, 12, 13, 14, 15, 16, 17, 18, 19, 20, 21, 22, 23, 24, 25, 26, 27, 28, 29, 30, 31, 32, 33, 34, 35, 36, 37, 38, 39, 40, 41, 42, 43, 44, 45, 46, 47, 48, 49, 50, 51, 52, 53, 54, 55, 56, 57, 58, 59, 60, 61, 62, 63, 64, 65, 66, 67, 68, 69, 70, 71, 72, 73, 74, 75, 76, 77, 78, 79, 80, 81, 82, 83, 84, 85, 86, 87, 88, 89, 90, 91, 92, 93, 94, 95, 96, 97, 98, 99, 100, 101, 102, 103, 104, 105, 106, 107, 108, 109, 110, 111, 112, 113, 114, 115, 116, 117, 118, 119, 120, 121, 122, 123, 124, 125, 126, 127, 128, 129, 130, 131, 132, 133, 134, 135, 136, 137, 138, 139, 140, 141, 142, 143, 144, 145, 146, 147, 148, 149, 150, 151, 152, 153, 154, 155, 156, 157, 158, 159, 160, 161, 162, 163, 164, 165, 166, 167, 168, 169, 170, 171, 172, 173, 174, 175, 176, 177, 178, 179, 180, 181, 182, 183, 184, 185, 186, 187] (fun k => [(3, .int .i64 (k : Nat))]) (fun k w' => k ≤ n ∧ From w w') (fun k => n - k) (0) ⟨rfl, trivial⟩ ?_ ?_
  · exact ⟨Nat.zero_le _, From.rfl_⟩
  rintro k ρ1 w1 ⟨hk, hB⟩
  refine cd_seq ?_
  refine cd_seq ?_
  refine cd_region ?_
  refine st_val (ro_move (v := .int _ _) rfl) ?_
  refine st_val (ro_move (v := .slice _ _ _) rfl) ?_
  refine st_val (ro_len EntCompacts_l22 rfl) ?_
  refine st_val (ro_lss rfl rfl) ?_
  refine st_val (ro_move (v := .bool _) rfl) ?_
  refine st_split (t := 23) rfl (fun Q2 => ?_) (fun Q2 => ?_)
  · (try first | replace Q2 := bn_t Q2 | replace Q2 := bn_f Q2)
    (try first | replace Q2 := bx_t Q2 | replace Q2 := bx_f Q2 | replace Q2 := be_t Q2 | replace Q2 := be_f Q2 | replace Q2 := of_decide_eq_true Q2 | replace Q2 := of_decide_eq_false Q2)
    first
     | (exfalso; first | first | omega | (simp at *; omega) | contradiction | (cases Q2; done))
     | skip
       refine st_unguard rfl ?_
       refine st_val (ro_move (v := .int _ _) rfl) ?_
       refine st_unguard rfl ?_
       refine st_val (ro_lss rfl rfl) ?_
       refine st_val (ro_pickT (v := .bool _) rfl rfl) ?_
       refine st_nil ?_
       refine nx_then ?_
       refine cd_cond rfl (fun Q3 => ?_) (fun Q3 => ?_)
       · (try first | replace Q3 := bn_t Q3 | replace Q3 := bn_f Q3)
         (try first | replace Q3 := bx_t Q3 | replace Q3 := bx_f Q3 | replace Q3 := be_t Q3 | replace Q3 := be_f Q3 | replace Q3 := of_decide_eq_true Q3 | replace Q3 := of_decide_eq_false Q3)
         obtain ⟨b, o, rfl, hbl, hc⟩ := hE (by omega)
         obtain ⟨B, T, I, M, N, V, E, xs, es, hat⟩ := hc k (by omega)
         obtain ⟨A1, c1, rfl, hh1, hh2, hh3, -⟩ := id hat.log
         obtain ⟨A2, c2, rfl, -⟩ := id hat.ent
         first
          | (exfalso; first | first | omega | (simp at *; omega) | contradiction | (cases Q3; done))
          | skip
            refine cd_skip ?_
            refine nx_then ?_
            refine cd_seq ?_
            refine cd_block ?_
            refine cd_seq ?_
            refine cd_seq ?_
            refine cd_region ?_
            refine st_val (ro_move (v := .slice _ _ _) rfl) ?_
            refine st_val (ro_move (v := .int _ _) rfl) ?_
            refine st_val (ro_indexAddrN EntCompacts_e22 rfl rfl (by omega)) ?_
            refine st_val (ro_loadA (cs := [_, _, _, _, _, _, _]) EntCompacts_g27 EntCompacts_z27 rfl (by first | (first | exact rangeF hB hat.rlog | exact rangeF hB hat.all | exact cellF hB hat.c0 | exact cellF hB hat.c1 | exact cellF hB hat.c2 | exact cellF hB hat.c3))) ?_
            refine st_call EntCompacts_k37 (ok_rt B T I M N A1 A2 _ c1 _ c2 xs es _ (hat.log.from_ hB) (hat.ent.from_ hB) hat.lok hat.llen hat.eok hat.elen) ?_
            rintro v33 w4 ⟨b33, rfl, hok33, E33⟩
            refine st_val (ro_not rfl) ?_
            refine st_val (ro_move (v := .bool _) rfl) ?_
            refine st_split (t := 35) rfl (fun Q5 => ?_) (fun Q5 => ?_)
            · (try first | replace Q5 := bn_t Q5 | replace Q5 := bn_f Q5)
              (try first | replace Q5 := bx_t Q5 | replace Q5 := bx_f Q5 | replace Q5 := be_t Q5 | replace Q5 := be_f Q5 | replace Q5 := of_decide_eq_true Q5 | replace Q5 := of_decide_eq_false Q5)
              first
               | (exfalso; first | first | omega | (simp at *; omega) | contradiction | (cases Q5; done))
               | skip
                 refine st_gno rfl rfl ?_
                 refine st_gno rfl rfl ?_
                 refine st_gno rfl rfl ?_
                 refine st_gno rfl rfl ?_
                 refine st_gno rfl rfl ?_
                 refine st_gno rfl rfl ?_
                 refine st_gno rfl rfl ?_
                 refine st_val (ro_pickT (v := .bool _) rfl rfl) ?_
                 refine st_nil ?_
                 refine nx_then ?_
                 refine cd_condT rfl ?_
                 refine cd_exit ?_
                 refine ex_then ?_
                 refine ex_block ?_
                 refine nx_then ?_
                 refine cd_region ?_
                 refine st_val (ro_move (v := .int _ _) rfl) ?_
                 refine st_val (ro_addN (b := 1) rfl rfl (by omega)) ?_
                 refine st_val (ro_assign (v := .int _ _) rfl) ?_
                 refine st_nil ?_
                 refine nx_cut (k + 1) ⟨(by first | rfl | (refine int_eq ?_; omega)), trivial⟩ (by (iterate 214 refine agr_cons rfl ?_); exact agr_rfl) ⟨?_, ?_⟩
                 · exact ⟨by omega, (hB.next E33)⟩
                 · omega
            · (try first | replace Q5 := bn_t Q5 | replace Q5 := bn_f Q5)
              (try first | replace Q5 := bx_t Q5 | replace Q5 := bx_f Q5 | replace Q5 := be_t Q5 | replace Q5 := be_f Q5 | replace Q5 := of_decide_eq_true Q5 | replace Q5 := of_decide_eq_false Q5)
              obtain ⟨hm, hxl, -⟩ := hok33 Q5
              obtain ⟨hl, hB0, hB1, hx⟩ := may_last hm
              first
               | (exfalso; first | first | omega | (simp at *; omega) | contradiction | (cases Q5; done))
               | skip
                 refine st_unguard rfl ?_
                 refine st_val (ro_move (v := .slice _ _ _) rfl) ?_
                 refine st_unguard rfl ?_
                 refine st_val (ro_move (v := .int _ _) rfl) ?_
                 refine st_unguard rfl ?_
                 refine st_val (ro_indexAddrN EntCompacts_e22 rfl rfl (by omega)) ?_
                 refine st_unguard rfl ?_
                 refine st_val (ro_fieldAddr EntCompacts_f27_0 rfl) ?_
                 refine st_unguard rfl ?_
                 refine st_val (ro_fieldAddr EntCompacts_f25_0 rfl) ?_
                 refine st_unguard rfl ?_
                 refine st_val (ro_load EntCompacts_g3 rfl (by first | (first | exact rangeF (hB.next E33) hat.rlog | exact rangeF (hB.next E33) hat.all | exact cellF (hB.next E33) hat.c0 | exact cellF (hB.next E33) hat.c1 | exact cellF (hB.next E33) hat.c2 | exact cellF (hB.next E33) hat.c3))) ?_
                 refine st_unguard rfl ?_
                 refine st_val (ro_gtr rfl rfl) ?_
                 refine st_val (ro_pickF (v := .bool _) rfl rfl) ?_
                 refine st_nil ?_
                 refine nx_then ?_
                 refine cd_cond rfl (fun Q6 => ?_) (fun Q6 => ?_)
                 · (try first | replace Q6 := bn_t Q6 | replace Q6 := bn_f Q6)
                   (try first | replace Q6 := bx_t Q6 | replace Q6 := bx_f Q6 | replace Q6 := be_t Q6 | replace Q6 := be_f Q6 | replace Q6 := of_decide_eq_true Q6 | replace Q6 := of_decide_eq_false Q6)
                   first
                    | (exfalso; first | first | omega | (simp at *; omega) | contradiction | (cases Q6; done))
                    | skip
                      refine cd_exit ?_
                      refine ex_then ?_
                      refine ex_block ?_
                      refine nx_then ?_
                      refine cd_region ?_
                      refine st_val (ro_move (v := .int _ _) rfl) ?_
                      refine st_val (ro_addN (b := 1) rfl rfl (by omega)) ?_
                      refine st_val (ro_assign (v := .int _ _) rfl) ?_
                      refine st_nil ?_
                      refine nx_cut (k + 1) ⟨(by first | rfl | (refine int_eq ?_; omega)), trivial⟩ (by (iterate 214 refine agr_cons rfl ?_); exact agr_rfl) ⟨?_, ?_⟩
                      · exact ⟨by omega, (hB.next E33)⟩
                      · omega
                 · (try first | replace Q6 := bn_t Q6 | replace Q6 := bn_f Q6)
                   (try first | replace Q6 := bx_t Q6 | replace Q6 := bx_f Q6 | replace Q6 := be_t Q6 | replace Q6 := be_f Q6 | replace Q6 := of_decide_eq_true Q6 | replace Q6 := of_decide_eq_false Q6)
                   first
                    | (exfalso; first | first | omega | (simp at *; omega) | contradiction | (cases Q6; done))
                    | skip
                      refine cd_skip ?_
                      refine nx_then ?_
                      refine cd_seq ?_
                      refine cd_region ?_
                      refine st_val (ro_move (v := .slice _ _ _) rfl) ?_
                      refine st_val (ro_move (v := .int _ _) rfl) ?_
                      refine st_val (ro_indexAddrN EntCompacts_e22 rfl rfl (by omega)) ?_
                      refine st_val (ro_fieldAddr EntCompacts_f27_0 rfl) ?_
                      refine st_val (ro_loadA (cs := [_, _, _]) EntCompacts_g25 EntCompacts_z25 rfl (by first | (first | exact rangeF (hB.next E33) hat.rlog | exact rangeF (hB.next E33) hat.all | exact cellF (hB.next E33) hat.c0 | exact cellF (hB.next E33) hat.c1 | exact cellF (hB.next E33) hat.c2 | exact cellF (hB.next E33) hat.c3))) ?_
                      refine st_call EntCompacts_k25 (last_rt B T A1 _ c1 xs _ (hat.log.from_ (hB.next E33)) hm) ?_
                      rintro v50 w7 ⟨rfl, E50⟩
                      refine st_val (ro_move (v := .tuple _) rfl) ?_
                      refine st_val (ro_extract rfl rfl) ?_
                      refine st_val (ro_extract rfl rfl) ?_
                      refine st_val (ro_extract rfl rfl) ?_
                      refine st_val (ro_assign (v := .int _ _) rfl) ?_
                      refine st_val (ro_assign (v := .int _ _) rfl) ?_
                      refine st_val (ro_assign (v := .int _ _) rfl) ?_
                      refine st_nil ?_
                      refine nx_then ?_
                      refine cd_seq ?_
                      refine cd_seq ?_
                      refine cd_region ?_
                      refine st_val (ro_move (v := .slice _ _ _) rfl) ?_
                      refine st_val (ro_move (v := .int _ _) rfl) ?_
                      refine st_val (ro_indexAddrN EntCompacts_e22 rfl rfl (by omega)) ?_
                      refine st_val (ro_fieldAddr EntCompacts_f27_0 rfl) ?_
                      refine st_val (ro_fieldAddr EntCompacts_f25_0 rfl) ?_
                      refine st_val (ro_load EntCompacts_g3 rfl (by first | (first | exact rangeF ((hB.next E33).next E50) hat.rlog | exact rangeF ((hB.next E33).next E50) hat.all | exact cellF ((hB.next E33).next E50) hat.c0 | exact cellF ((hB.next E33).next E50) hat.c1 | exact cellF ((hB.next E33).next E50) hat.c2 | exact cellF ((hB.next E33).next E50) hat.c3))) ?_
                      refine st_val (ro_add64 rfl rfl (by omega)) ?_
                      refine st_val (ro_assign (v := .int _ _) rfl) ?_
                      refine st_nil ?_
                      refine nx_then ?_
                      refine cd_block ?_
                      refine cd_loop (G := Nat) [2, 8, 9, 10, 11, 12, 13, 14, 61, 62, 63, 64, 65, 66, 67, 68, 69, 70, 71, 72, 73, 74, 75, 76, 77, 78, 79, 80, 81, 82, 83, 84, 85, 86, 87, 88, 89, 90, 91, 92, 93, 94, 95, 96, 97, 98, 99, 100, 101, 102, 103, 104, 105, 106, 107, 108, 109, 110, 111, 112, 113, 114, 115, 116, 117, 118, 119, 120, 121, 122, 123, 124, 125, 126, 127, 128, 129, 130, 131, 132, 133, 134, 135, 136, 137, 138, 139, 140, 141, 142, 143, 144, 145, 146, 147, 148, 149, 150, 151, 152, 153] (fun j => [(7, .int .i64 (B + 1 + (j : Nat)))]) (fun j w' => j ≤ xs.length ∧ From w w') (fun j => xs.length - j) (0) ⟨(by first | rfl | (refine int_eq ?_; omega)), trivial⟩ ?_ ?_
                      · exact ⟨Nat.zero_le _, ((hB.next E33).next E50)⟩
                      rintro j ρ8 w8 ⟨hj, hB⟩
                      refine cd_seq ?_
                      refine cd_seq ?_
                      apply cd_drawn 16 [(61, eqp _), (62, eqp _), (63, eqp _), (64, eqp _), (65, eqp _), (66, eqp _), (67, eqp _), (68, eqp _), (69, eqp _), (70, eqp _), (71, eqp _), (72, eqp _), (73, eqp _), (74, eqp _), (75, eqp _), (76, eqp _)] (by kernel_rfl) (by kernel_rfl) ⟨eqp_mono _, eqp_mono _, eqp_mono _, eqp_mono _, eqp_mono _, eqp_mono _, eqp_mono _, eqp_mono _, eqp_mono _, eqp_mono _, eqp_mono _, eqp_mono _, eqp_mono _, eqp_mono _, eqp_mono _, eqp_mono _, trivial⟩
                      case hop =>
                       refine ⟨?_, ?_⟩
                       · intro w10 D10
                         show OpOK _ _ _ _ _ _ _
                         exact ok_pure (ro_move (v := .int _ _) rfl) rfl
                       refine ⟨?_, ?_⟩
                       · intro w11 D11
                         show OpOK _ _ _ _ _ _ _
                         exact ok_pure (ro_move (v := .slice _ _ _) rfl) rfl
                       refine ⟨?_, ?_⟩
                       · intro w12 D12
                         show OpOK _ _ _ _ _ _ _
                         exact ok_pure (ro_move (v := .int _ _) rfl) rfl
                       refine ⟨?_, ?_⟩
                       · intro w13 D13
                         rintro _ rfl _ rfl
                         show OpOK _ _ _ _ _ _ _
                         exact ok_pure (ro_indexAddrN EntCompacts_e22 rfl rfl (by omega)) rfl
                       refine ⟨?_, ?_⟩
                       · intro w14 D14
                         rintro _ rfl
                         show OpOK _ _ _ _ _ _ _
                         exact ok_pure (ro_fieldAddr EntCompacts_f27_0 rfl) rfl
                       refine ⟨?_, ?_⟩
                       · intro w15 D15
                         rintro _ rfl
                         show OpOK _ _ _ _ _ _ _
                         exact ok_pure (ro_fieldAddr EntCompacts_f25_0 rfl) rfl
                       refine ⟨?_, ?_⟩
                       · intro w16 D16
                         rintro _ rfl
                         show OpOK _ _ _ _ _ _ _
                         exact ok_pure (ro_load EntCompacts_g3 rfl (by first | (first | exact rangeF (hB.next D16) hat.rlog | exact rangeF (hB.next D16) hat.all | exact cellF (hB.next D16) hat.c0 | exact cellF (hB.next D16) hat.c1 | exact cellF (hB.next D16) hat.c2 | exact cellF (hB.next D16) hat.c3))) rfl
                       refine ⟨?_, ?_⟩
                       · intro w17 D17
                         show OpOK _ _ _ _ _ _ _
                         exact ok_pure (ro_move (v := .slice _ _ _) rfl) rfl
                       refine ⟨?_, ?_⟩
                       · intro w18 D18
                         show OpOK _ _ _ _ _ _ _
                         exact ok_pure (ro_move (v := .int _ _) rfl) rfl
                       refine ⟨?_, ?_⟩
                       · intro w19 D19
                         rintro _ rfl _ rfl
                         show OpOK _ _ _ _ _ _ _
                         exact ok_pure (ro_indexAddrN EntCompacts_e22 rfl rfl (by omega)) rfl
                       refine ⟨?_, ?_⟩
                       · intro w20 D20
                         rintro _ rfl
                         show OpOK _ _ _ _ _ _ _
                         exact ok_pure (ro_fieldAddr EntCompacts_f27_0 rfl) rfl
                       refine ⟨?_, ?_⟩
                       · intro w21 D21
                         rintro _ rfl
                         show OpOK _ _ _ _ _ _ _
                         exact ok_pure (ro_fieldAddr EntCompacts_f25_2 rfl) rfl
                       refine ⟨?_, ?_⟩
                       · intro w22 D22
                         rintro _ rfl
                         show OpOK _ _ _ _ _ _ _
                         exact ok_pure (ro_load EntCompacts_g23 rfl (by first | (first | exact rangeF (hB.next D22) hat.rlog | exact rangeF (hB.next D22) hat.all | exact cellF (hB.next D22) hat.c0 | exact cellF (hB.next D22) hat.c1 | exact cellF (hB.next D22) hat.c2 | exact cellF (hB.next D22) hat.c3))) rfl
                       refine ⟨?_, ?_⟩
                       · intro w23 D23
                         rintro _ rfl
                         show OpOK _ _ _ _ _ _ _
                         exact ok_pure (ro_len EntCompacts_l23 rfl) rfl
                       refine ⟨?_, ?_⟩
                       · intro w24 D24
                         rintro _ rfl _ rfl
                         show OpOK _ _ _ _ _ _ _
                         exact ok_pure (ro_add64 rfl rfl (by omega)) rfl
                       refine ⟨?_, ?_⟩
                       · intro w25 D25
                         rintro _ rfl _ rfl
                         show OpOK _ _ _ _ _ _ _
                         exact ok_pure (ro_leq rfl rfl) rfl
                       exact trivial
                      case hend =>
                       intro w26 D26
                       rintro _ rfl _ rfl _ rfl _ rfl _ rfl _ rfl _ rfl _ rfl _ rfl _ rfl _ rfl _ rfl _ rfl _ rfl _ rfl _ rfl
                       show St _ _ _ _ _ _ _
                       refine st_nil ?_
                       refine nx_then ?_
                       refine cd_cond rfl (fun Q27 => ?_) (fun Q27 => ?_)
                       · (try first | replace Q27 := bn_t Q27 | replace Q27 := bn_f Q27)
                         (try first | replace Q27 := bx_t Q27 | replace Q27 := bx_f Q27 | replace Q27 := be_t Q27 | replace Q27 := be_f Q27 | replace Q27 := of_decide_eq_true Q27 | replace Q27 := of_decide_eq_false Q27)
                         first
                          | (exfalso; first | first | omega | (simp at *; omega) | contradiction | (cases Q27; done))
                          | skip
                            refine cd_skip ?_
                            refine nx_then ?_
                            refine cd_seq ?_
                            refine cd_block ?_
                            refine cd_seq ?_
                            refine cd_region ?_
                            refine st_val (ro_move (v := .slice _ _ _) rfl) ?_
                            refine st_val (ro_move (v := .int _ _) rfl) ?_
                            refine st_val (ro_indexAddrN EntCompacts_e22 rfl rfl (by omega)) ?_
                            refine st_val (ro_fieldAddr EntCompacts_f27_0 rfl) ?_
                            refine st_val (ro_loadA (cs := [_, _, _]) EntCompacts_g25 EntCompacts_z25 rfl (by first | (first | exact rangeF (hB.next D26) hat.rlog | exact rangeF (hB.next D26) hat.all | exact cellF (hB.next D26) hat.c0 | exact cellF (hB.next D26) hat.c1 | exact cellF (hB.next D26) hat.c2 | exact cellF (hB.next D26) hat.c3))) ?_
                            refine st_val (ro_move (v := .int _ _) rfl) ?_
                            refine st_call EntCompacts_k31 (compact_in B T _ (j + 1) A1 _ c1 xs _ (hat.log.from_ (hB.next D26)) hm (by omega) (by omega) (by omega) (by omega)) ?_
                            rintro v86 w28 ⟨A86, c86, rfl, he86, E86⟩
                            obtain ⟨hm2, hl2⟩ := may_drop hm (k := j + 1) (by omega) (by omega)
                            have hl3 := (may_last hm2).1
                            have htt : termI B T xs (B + 1 + (j : Int)) = termI B T xs (B + ((j + 1 : Nat) : Int)) := congrArg _ (by omega)
                            have hidx : B + 1 + (j : Int) = B + ((j + 1 : Nat) : Int) := by omega
                            have hLI : lastI (B + 1 + (j : Int)) (xs.drop (j + 1)) = lastI B xs := by
                              rw [hidx, hl3, hl, List.length_drop]; omega
                            have hLT : lastT (termI B T xs (B + 1 + (j : Int))) (xs.drop (j + 1)) = lastT T xs := by rw [htt]; exact hl2
                            refine st_val (ro_move (v := .tuple _) rfl) ?_
                            refine st_val (ro_extract rfl rfl) ?_
                            refine st_val (ro_extract rfl rfl) ?_
                            refine st_alloc EntCompacts_o25 ?_
                            intro b8 w29 E8 hb8 hk8
                            have hg8 : w.heap.size ≤ b8 := by rw [hb8]; exact (((hB.next D26).next E86)).size
                            refine st_putW (vs := [_, _, _]) EntCompacts_z25 rfl rfl (by simp [Value.oneCell']) (hk8) rfl ?_
                            intro w30 O9 P9
                            refine st_val (ro_assign (v := .int _ _) rfl) ?_
                            refine st_nil ?_
                            refine nx_then ?_
                            refine cd_seq ?_
                            refine cd_region ?_
                            refine st_val (ro_loadA (cs := [_, _, _]) EntCompacts_g25 EntCompacts_z25 rfl (by first | exact (P9.from_ From.rfl_).whole | exact (P9.from_ From.rfl_).rd 0 rfl | exact (P9.from_ From.rfl_).rd 1 rfl | exact (P9.from_ From.rfl_).rd 2 rfl)) ?_
                            refine st_call EntCompacts_k25 (last_rt _ _ A86 _ c86 (xs.drop (j + 1)) _ (he86.from_ ((E8).only O9 (by omega))) (by rw [htt, show B + 1 + (j : Int) = B + ((j + 1 : Nat) : Int) by omega]; exact hm2)) ?_
                            rintro v91 w31 ⟨rfl, E91⟩
                            refine st_val (ro_move (v := .tuple _) rfl) ?_
                            refine st_val (ro_extract rfl rfl) ?_
                            refine st_val (ro_extract rfl rfl) ?_
                            refine st_val (ro_extract rfl rfl) ?_
                            refine st_val (ro_assign (v := .int _ _) rfl) ?_
                            refine st_val (ro_assign (v := .int _ _) rfl) ?_
                            refine st_val (ro_assign (v := .int _ _) rfl) ?_
                            refine st_nil ?_
                            refine nx_then ?_
                            refine cd_seq ?_
                            refine cd_region ?_
                            refine st_val (ro_move (v := .slice _ _ _) rfl) ?_
                            refine st_val (ro_move (v := .int _ _) rfl) ?_
                            refine st_val (ro_indexAddrN EntCompacts_e22 rfl rfl (by omega)) ?_
                            refine st_val (ro_fieldAddr EntCompacts_f27_0 rfl) ?_
                            refine st_val (ro_loadA (cs := [_, _, _]) EntCompacts_g25 EntCompacts_z25 rfl (by first | (first | exact rangeF (((((hB.next D26).next E86).next E8).only O9 (hg8)).next E91) hat.rlog | exact rangeF (((((hB.next D26).next E86).next E8).only O9 (hg8)).next E91) hat.all | exact cellF (((((hB.next D26).next E86).next E8).only O9 (hg8)).next E91) hat.c0 | exact cellF (((((hB.next D26).next E86).next E8).only O9 (hg8)).next E91) hat.c1 | exact cellF (((((hB.next D26).next E86).next E8).only O9 (hg8)).next E91) hat.c2 | exact cellF (((((hB.next D26).next E86).next E8).only O9 (hg8)).next E91) hat.c3))) ?_
                            refine st_val (ro_move (v := .int _ _) rfl) ?_
                            refine st_call EntCompacts_k26 (term_rt B T _ A1 _ c1 xs _ (hat.log.from_ (((((hB.next D26).next E86).next E8).only O9 (hg8)).next E91)) hm (by omega)) ?_
                            rintro v102 w32 ⟨rfl, E102⟩
                            refine st_val (ro_move (v := .tuple _) rfl) ?_
                            refine st_val (ro_extract rfl rfl) ?_
                            refine st_val (ro_extract rfl rfl) ?_
                            refine st_val (ro_assign (v := .int _ _) rfl) ?_
                            refine st_val (ro_assign (v := .int _ _) rfl) ?_
                            refine st_nil ?_
                            refine nx_then ?_
                            refine cd_seq ?_
                            refine cd_region ?_
                            refine st_val (ro_move (v := .int _ _) rfl) ?_
                            refine st_call EntCompacts_k23 (Rt.of (errnum_any _ _)) ?_
                            rintro v106 w33 ⟨rfl, rfl⟩
                            refine st_val (ro_neq rfl rfl) ?_
                            refine st_val (ro_move (v := .bool _) rfl) ?_
                            refine st_split (t := 108) rfl (fun Q34 => ?_) (fun Q34 => ?_)
                            · (try first | replace Q34 := bn_t Q34 | replace Q34 := bn_f Q34)
                              (try first | replace Q34 := bx_t Q34 | replace Q34 := bx_f Q34 | replace Q34 := be_t Q34 | replace Q34 := be_f Q34 | replace Q34 := of_decide_eq_true Q34 | replace Q34 := of_decide_eq_false Q34)
                              first
                               | (exfalso; first | first | omega | (simp at *; omega) | contradiction | (cases Q34; done))
                               | skip
                                 refine st_gno rfl rfl ?_
                                 refine st_gno rfl rfl ?_
                                 refine st_gno rfl rfl ?_
                                 refine st_val (ro_pickT (v := .bool _) rfl rfl) ?_
                                 refine st_val (ro_move (v := .bool _) rfl) ?_
                                 refine st_gno rfl rfl ?_
                                 refine st_gno rfl rfl ?_
                                 refine st_gno rfl rfl ?_
                                 refine st_val (ro_pickT (v := .bool _) rfl rfl) ?_
                                 refine st_val (ro_move (v := .bool _) rfl) ?_
                                 refine st_gno rfl rfl ?_
                                 refine st_gno rfl rfl ?_
                                 refine st_gno rfl rfl ?_
                                 refine st_val (ro_pickT (v := .bool _) rfl rfl) ?_
                                 refine st_val (ro_move (v := .bool _) rfl) ?_
                                 refine st_gno rfl rfl ?_
                                 refine st_gno rfl rfl ?_
                                 refine st_gno rfl rfl ?_
                                 refine st_val (ro_pickT (v := .bool _) rfl rfl) ?_
                                 refine st_val (ro_move (v := .bool _) rfl) ?_
                                 refine st_gno rfl rfl ?_
                                 refine st_gno rfl rfl ?_
                                 refine st_gno rfl rfl ?_
                                 refine st_val (ro_pickT (v := .bool _) rfl rfl) ?_
                                 refine st_val (ro_move (v := .bool _) rfl) ?_
                                 refine st_gno rfl rfl ?_
                                 refine st_gno rfl rfl ?_
                                 refine st_gno rfl rfl ?_
                                 refine st_gno rfl rfl ?_
                                 refine st_val (ro_pickT (v := .bool _) rfl rfl) ?_
                                 refine st_val (ro_move (v := .bool _) rfl) ?_
                                 refine st_gno rfl rfl ?_
                                 refine st_gno rfl rfl ?_
                                 refine st_gno rfl rfl ?_
                                 refine st_gno rfl rfl ?_
                                 refine st_val (ro_pickT (v := .bool _) rfl rfl) ?_
                                 refine st_val (ro_move (v := .bool _) rfl) ?_
                                 refine st_gno rfl rfl ?_
                                 refine st_gno rfl rfl ?_
                                 refine st_gno rfl rfl ?_
                                 refine st_gno rfl rfl ?_
                                 refine st_gno rfl rfl ?_
                                 refine st_gno rfl rfl ?_
                                 refine st_gno rfl rfl ?_
                                 refine st_val (ro_pickT (v := .bool _) rfl rfl) ?_
                                 refine st_nil ?_
                                 refine nx_then ?_
                                 refine cd_condT rfl ?_
                                 refine cd_seq ?_
                                 refine cd_region ?_
                                 refine st_val (ro_assign (v := .bool _) rfl) ?_
                                 refine st_nil ?_
                                 refine nx_then ?_
                                 refine cd_ret ?_
                                 refine rt_block ?_
                                 refine rt_then ?_
                                 refine rt_then ?_
                                 refine rt_block ?_
                                 refine rt_then ?_
                                 refine rt_block ?_
                                 refine rt_then ?_
                                 refine rt_then ?_
                                 refine rt_block ?_
                                 refine rt_then ?_
                                 refine res1 (v := .bool _) rfl rfl ?_
                                 exact ⟨rfl, ((((((hB.next D26).next E86).next E8).only O9 (hg8)).next E91).next E102)⟩
                            · (try first | replace Q34 := bn_t Q34 | replace Q34 := bn_f Q34)
                              (try first | replace Q34 := bx_t Q34 | replace Q34 := bx_f Q34 | replace Q34 := be_t Q34 | replace Q34 := be_f Q34 | replace Q34 := of_decide_eq_true Q34 | replace Q34 := of_decide_eq_false Q34)
                              first
                               | (exfalso; first | first | omega | (simp at *; omega) | contradiction | (cases Q34; done))
                               | skip
                                 refine st_unguard rfl ?_
                                 refine st_val (ro_move (v := .int _ _) rfl) ?_
                                 refine st_unguard rfl ?_
                                 refine st_call EntCompacts_k23 (Rt.of (errnum_any _ _)) ?_
                                 rintro v110 w35 ⟨rfl, rfl⟩
                                 refine st_unguard rfl ?_
                                 refine st_val (ro_neq rfl rfl) ?_
                                 refine st_val (ro_pickF (v := .bool _) rfl rfl) ?_
                                 refine st_val (ro_move (v := .bool _) rfl) ?_
                                 refine st_split (t := 113) rfl (fun Q36 => ?_) (fun Q36 => ?_)
                                 · (try first | replace Q36 := bn_t Q36 | replace Q36 := bn_f Q36)
                                   (try first | replace Q36 := bx_t Q36 | replace Q36 := bx_f Q36 | replace Q36 := be_t Q36 | replace Q36 := be_f Q36 | replace Q36 := of_decide_eq_true Q36 | replace Q36 := of_decide_eq_false Q36)
                                   first
                                    | (exfalso; first | first | omega | (simp at *; omega) | contradiction | (cases Q36; done))
                                    | skip
                                      refine st_gno rfl rfl ?_
                                      refine st_gno rfl rfl ?_
                                      refine st_gno rfl rfl ?_
                                      refine st_val (ro_pickT (v := .bool _) rfl rfl) ?_
                                      refine st_val (ro_move (v := .bool _) rfl) ?_
                                      refine st_gno rfl rfl ?_
                                      refine st_gno rfl rfl ?_
                                      refine st_gno rfl rfl ?_
                                      refine st_val (ro_pickT (v := .bool _) rfl rfl) ?_
                                      refine st_val (ro_move (v := .bool _) rfl) ?_
                                      refine st_gno rfl rfl ?_
                                      refine st_gno rfl rfl ?_
                                      refine st_gno rfl rfl ?_
                                      refine st_val (ro_pickT (v := .bool _) rfl rfl) ?_
                                      refine st_val (ro_move (v := .bool _) rfl) ?_
                                      refine st_gno rfl rfl ?_
                                      refine st_gno rfl rfl ?_
                                      refine st_gno rfl rfl ?_
                                      refine st_val (ro_pickT (v := .bool _) rfl rfl) ?_
                                      refine st_val (ro_move (v := .bool _) rfl) ?_
                                      refine st_gno rfl rfl ?_
                                      refine st_gno rfl rfl ?_
                                      refine st_gno rfl rfl ?_
                                      refine st_gno rfl rfl ?_
                                      refine st_val (ro_pickT (v := .bool _) rfl rfl) ?_
                                      refine st_val (ro_move (v := .bool _) rfl) ?_
                                      refine st_gno rfl rfl ?_
                                      refine st_gno rfl rfl ?_
                                      refine st_gno rfl rfl ?_
                                      refine st_gno rfl rfl ?_
                                      refine st_val (ro_pickT (v := .bool _) rfl rfl) ?_
                                      refine st_val (ro_move (v := .bool _) rfl) ?_
                                      refine st_gno rfl rfl ?_
                                      refine st_gno rfl rfl ?_
                                      refine st_gno rfl rfl ?_
                                      refine st_gno rfl rfl ?_
                                      refine st_gno rfl rfl ?_
                                      refine st_gno rfl rfl ?_
                                      refine st_gno rfl rfl ?_
                                      refine st_val (ro_pickT (v := .bool _) rfl rfl) ?_
                                      refine st_nil ?_
                                      refine nx_then ?_
                                      refine cd_condT rfl ?_
                                      refine cd_seq ?_
                                      refine cd_region ?_
                                      refine st_val (ro_assign (v := .bool _) rfl) ?_
                                      refine st_nil ?_
                                      refine nx_then ?_
                                      refine cd_ret ?_
                                      refine rt_block ?_
                                      refine rt_then ?_
                                      refine rt_then ?_
                                      refine rt_block ?_
                                      refine rt_then ?_
                                      refine rt_block ?_
                                      refine rt_then ?_
                                      refine rt_then ?_
                                      refine rt_block ?_
                                      refine rt_then ?_
                                      refine res1 (v := .bool _) rfl rfl ?_
                                      exact ⟨rfl, ((((((hB.next D26).next E86).next E8).only O9 (hg8)).next E91).next E102)⟩
                                 · (try first | replace Q36 := bn_t Q36 | replace Q36 := bn_f Q36)
                                   (try first | replace Q36 := bx_t Q36 | replace Q36 := bx_f Q36 | replace Q36 := be_t Q36 | replace Q36 := be_f Q36 | replace Q36 := of_decide_eq_true Q36 | replace Q36 := of_decide_eq_false Q36)
                                   first
                                    | (exfalso; first | first | omega | (simp at *; omega) | contradiction | (cases Q36; done))
                                    | skip
                                      refine st_unguard rfl ?_
                                      refine st_val (ro_move (v := .int _ _) rfl) ?_
                                      refine st_unguard rfl ?_
                                      refine st_call EntCompacts_k23 (Rt.of (errnum_any _ _)) ?_
                                      rintro v115 w37 ⟨rfl, rfl⟩
                                      refine st_unguard rfl ?_
                                      refine st_val (ro_neq rfl rfl) ?_
                                      refine st_val (ro_pickF (v := .bool _) rfl rfl) ?_
                                      refine st_val (ro_move (v := .bool _) rfl) ?_
                                      refine st_split (t := 118) rfl (fun Q38 => ?_) (fun Q38 => ?_)
                                      · (try first | replace Q38 := bn_t Q38 | replace Q38 := bn_f Q38)
                                        (try first | replace Q38 := bx_t Q38 | replace Q38 := bx_f Q38 | replace Q38 := be_t Q38 | replace Q38 := be_f Q38 | replace Q38 := of_decide_eq_true Q38 | replace Q38 := of_decide_eq_false Q38)
                                        first
                                         | (exfalso; first | first | omega | (simp at *; omega) | contradiction | (cases Q38; done))
                                         | skip
                                           refine st_gno rfl rfl ?_
                                           refine st_gno rfl rfl ?_
                                           refine st_gno rfl rfl ?_
                                           refine st_val (ro_pickT (v := .bool _) rfl rfl) ?_
                                           refine st_val (ro_move (v := .bool _) rfl) ?_
                                           refine st_gno rfl rfl ?_
                                           refine st_gno rfl rfl ?_
                                           refine st_gno rfl rfl ?_
                                           refine st_val (ro_pickT (v := .bool _) rfl rfl) ?_
                                           refine st_val (ro_move (v := .bool _) rfl) ?_
                                           refine st_gno rfl rfl ?_
                                           refine st_gno rfl rfl ?_
                                           refine st_gno rfl rfl ?_
                                           refine st_val (ro_pickT (v := .bool _) rfl rfl) ?_
                                           refine st_val (ro_move (v := .bool _) rfl) ?_
                                           refine st_gno rfl rfl ?_
                                           refine st_gno rfl rfl ?_
                                           refine st_gno rfl rfl ?_
                                           refine st_gno rfl rfl ?_
                                           refine st_val (ro_pickT (v := .bool _) rfl rfl) ?_
                                           refine st_val (ro_move (v := .bool _) rfl) ?_
                                           refine st_gno rfl rfl ?_
                                           refine st_gno rfl rfl ?_
                                           refine st_gno rfl rfl ?_
                                           refine st_gno rfl rfl ?_
                                           refine st_val (ro_pickT (v := .bool _) rfl rfl) ?_
                                           refine st_val (ro_move (v := .bool _) rfl) ?_
                                           refine st_gno rfl rfl ?_
                                           refine st_gno rfl rfl ?_
                                           refine st_gno rfl rfl ?_
                                           refine st_gno rfl rfl ?_
                                           refine st_gno rfl rfl ?_
                                           refine st_gno rfl rfl ?_
                                           refine st_gno rfl rfl ?_
                                           refine st_val (ro_pickT (v := .bool _) rfl rfl) ?_
                                           refine st_nil ?_
                                           refine nx_then ?_
                                           refine cd_condT rfl ?_
                                           refine cd_seq ?_
                                           refine cd_region ?_
                                           refine st_val (ro_assign (v := .bool _) rfl) ?_
                                           refine st_nil ?_
                                           refine nx_then ?_
                                           refine cd_ret ?_
                                           refine rt_block ?_
                                           refine rt_then ?_
                                           refine rt_then ?_
                                           refine rt_block ?_
                                           refine rt_then ?_
                                           refine rt_block ?_
                                           refine rt_then ?_
                                           refine rt_then ?_
                                           refine rt_block ?_
                                           refine rt_then ?_
                                           refine res1 (v := .bool _) rfl rfl ?_
                                           exact ⟨rfl, ((((((hB.next D26).next E86).next E8).only O9 (hg8)).next E91).next E102)⟩
                                      · (try first | replace Q38 := bn_t Q38 | replace Q38 := bn_f Q38)
                                        (try first | replace Q38 := bx_t Q38 | replace Q38 := bx_f Q38 | replace Q38 := be_t Q38 | replace Q38 := be_f Q38 | replace Q38 := of_decide_eq_true Q38 | replace Q38 := of_decide_eq_false Q38)
                                        first
                                         | (exfalso; first | first | omega | (simp at *; omega) | contradiction | (cases Q38; done))
                                         | skip
                                           refine st_unguard rfl ?_
                                           refine st_val (ro_move (v := .int _ _) rfl) ?_
                                           refine st_unguard rfl ?_
                                           refine st_call EntCompacts_k23 (Rt.of (errnum_any _ _)) ?_
                                           rintro v120 w39 ⟨rfl, rfl⟩
                                           refine st_unguard rfl ?_
                                           refine st_val (ro_neq rfl rfl) ?_
                                           refine st_val (ro_pickF (v := .bool _) rfl rfl) ?_
                                           refine st_val (ro_move (v := .bool _) rfl) ?_
                                           refine st_split (t := 123) rfl (fun Q40 => ?_) (fun Q40 => ?_)
                                           · (try first | replace Q40 := bn_t Q40 | replace Q40 := bn_f Q40)
                                             (try first | replace Q40 := bx_t Q40 | replace Q40 := bx_f Q40 | replace Q40 := be_t Q40 | replace Q40 := be_f Q40 | replace Q40 := of_decide_eq_true Q40 | replace Q40 := of_decide_eq_false Q40)
                                             first
                                              | (exfalso; first | first | omega | (simp at *; omega) | contradiction | (cases Q40; done))
                                              | skip
                                                refine st_gno rfl rfl ?_
                                                refine st_gno rfl rfl ?_
                                                refine st_gno rfl rfl ?_
                                                refine st_val (ro_pickT (v := .bool _) rfl rfl) ?_
                                                refine st_val (ro_move (v := .bool _) rfl) ?_
                                                refine st_gno rfl rfl ?_
                                                refine st_gno rfl rfl ?_
                                                refine st_gno rfl rfl ?_
                                                refine st_val (ro_pickT (v := .bool _) rfl rfl) ?_
                                                refine st_val (ro_move (v := .bool _) rfl) ?_
                                                refine st_gno rfl rfl ?_
                                                refine st_gno rfl rfl ?_
                                                refine st_gno rfl rfl ?_
                                                refine st_gno rfl rfl ?_
                                                refine st_val (ro_pickT (v := .bool _) rfl rfl) ?_
                                                refine st_val (ro_move (v := .bool _) rfl) ?_
                                                refine st_gno rfl rfl ?_
                                                refine st_gno rfl rfl ?_
                                                refine st_gno rfl rfl ?_
                                                refine st_gno rfl rfl ?_
                                                refine st_val (ro_pickT (v := .bool _) rfl rfl) ?_
                                                refine st_val (ro_move (v := .bool _) rfl) ?_
                                                refine st_gno rfl rfl ?_
                                                refine st_gno rfl rfl ?_
                                                refine st_gno rfl rfl ?_
                                                refine st_gno rfl rfl ?_
                                                refine st_gno rfl rfl ?_
                                                refine st_gno rfl rfl ?_
                                                refine st_gno rfl rfl ?_
                                                refine st_val (ro_pickT (v := .bool _) rfl rfl) ?_
                                                refine st_nil ?_
                                                refine nx_then ?_
                                                refine cd_condT rfl ?_
                                                refine cd_seq ?_
                                                refine cd_region ?_
                                                refine st_val (ro_assign (v := .bool _) rfl) ?_
                                                refine st_nil ?_
                                                refine nx_then ?_
                                                refine cd_ret ?_
                                                refine rt_block ?_
                                                refine rt_then ?_
                                                refine rt_then ?_
                                                refine rt_block ?_
                                                refine rt_then ?_
                                                refine rt_block ?_
                                                refine rt_then ?_
                                                refine rt_then ?_
                                                refine rt_block ?_
                                                refine rt_then ?_
                                                refine res1 (v := .bool _) rfl rfl ?_
                                                exact ⟨rfl, ((((((hB.next D26).next E86).next E8).only O9 (hg8)).next E91).next E102)⟩
                                           · (try first | replace Q40 := bn_t Q40 | replace Q40 := bn_f Q40)
                                             (try first | replace Q40 := bx_t Q40 | replace Q40 := bx_f Q40 | replace Q40 := be_t Q40 | replace Q40 := be_f Q40 | replace Q40 := of_decide_eq_true Q40 | replace Q40 := of_decide_eq_false Q40)
                                             first
                                              | (exfalso; first | first | omega | (simp at *; omega) | contradiction | (cases Q40; done))
                                              | skip
                                                refine st_unguard rfl ?_
                                                refine st_val (ro_move (v := .int _ _) rfl) ?_
                                                refine st_unguard rfl ?_
                                                refine st_val (ro_move (v := .int _ _) rfl) ?_
                                                refine st_unguard rfl ?_
                                                refine st_val (ro_neq rfl rfl) ?_
                                                refine st_val (ro_pickF (v := .bool _) rfl rfl) ?_
                                                refine st_val (ro_move (v := .bool _) rfl) ?_
                                                refine st_split (t := 128) rfl (fun Q41 => ?_) (fun Q41 => ?_)
                                                · (try first | replace Q41 := bn_t Q41 | replace Q41 := bn_f Q41)
                                                  (try first | replace Q41 := bx_t Q41 | replace Q41 := bx_f Q41 | replace Q41 := be_t Q41 | replace Q41 := be_f Q41 | replace Q41 := of_decide_eq_true Q41 | replace Q41 := of_decide_eq_false Q41)
                                                  first
                                                   | (exfalso; first | first | omega | (simp at *; omega) | contradiction | (cases Q41; done))
                                                   | skip
                                                     refine st_gno rfl rfl ?_
                                                     refine st_gno rfl rfl ?_
                                                     refine st_gno rfl rfl ?_
                                                     refine st_val (ro_pickT (v := .bool _) rfl rfl) ?_
                                                     refine st_val (ro_move (v := .bool _) rfl) ?_
                                                     refine st_gno rfl rfl ?_
                                                     refine st_gno rfl rfl ?_
                                                     refine st_gno rfl rfl ?_
                                                     refine st_gno rfl rfl ?_
                                                     refine st_val (ro_pickT (v := .bool _) rfl rfl) ?_
                                                     refine st_val (ro_move (v := .bool _) rfl) ?_
                                                     refine st_gno rfl rfl ?_
                                                     refine st_gno rfl rfl ?_
                                                     refine st_gno rfl rfl ?_
                                                     refine st_gno rfl rfl ?_
                                                     refine st_val (ro_pickT (v := .bool _) rfl rfl) ?_
                                                     refine st_val (ro_move (v := .bool _) rfl) ?_
                                                     refine st_gno rfl rfl ?_
                                                     refine st_gno rfl rfl ?_
                                                     refine st_gno rfl rfl ?_
                                                     refine st_gno rfl rfl ?_
                                                     refine st_gno rfl rfl ?_
                                                     refine st_gno rfl rfl ?_
                                                     refine st_gno rfl rfl ?_
                                                     refine st_val (ro_pickT (v := .bool _) rfl rfl) ?_
                                                     refine st_nil ?_
                                                     refine nx_then ?_
                                                     refine cd_condT rfl ?_
                                                     refine cd_seq ?_
                                                     refine cd_region ?_
                                                     refine st_val (ro_assign (v := .bool _) rfl) ?_
                                                     refine st_nil ?_
                                                     refine nx_then ?_
                                                     refine cd_ret ?_
                                                     refine rt_block ?_
                                                     refine rt_then ?_
                                                     refine rt_then ?_
                                                     refine rt_block ?_
                                                     refine rt_then ?_
                                                     refine rt_block ?_
                                                     refine rt_then ?_
                                                     refine rt_then ?_
                                                     refine rt_block ?_
                                                     refine rt_then ?_
                                                     refine res1 (v := .bool _) rfl rfl ?_
                                                     exact ⟨rfl, ((((((hB.next D26).next E86).next E8).only O9 (hg8)).next E91).next E102)⟩
                                                · (try first | replace Q41 := bn_t Q41 | replace Q41 := bn_f Q41)
                                                  (try first | replace Q41 := bx_t Q41 | replace Q41 := bx_f Q41 | replace Q41 := be_t Q41 | replace Q41 := be_f Q41 | replace Q41 := of_decide_eq_true Q41 | replace Q41 := of_decide_eq_false Q41)
                                                  first
                                                   | (exfalso; first | first | omega | (simp at *; omega) | contradiction | (cases Q41; done))
                                                   | skip
                                                     refine st_unguard rfl ?_
                                                     refine st_val (ro_move (v := .int _ _) rfl) ?_
                                                     refine st_unguard rfl ?_
                                                     refine st_val (ro_move (v := .int _ _) rfl) ?_
                                                     refine st_unguard rfl ?_
                                                     refine st_val (ro_neq rfl rfl) ?_
                                                     refine st_val (ro_pickF (v := .bool _) rfl rfl) ?_
                                                     refine st_val (ro_move (v := .bool _) rfl) ?_
                                                     refine st_split (t := 133) rfl (fun Q42 => ?_) (fun Q42 => ?_)
                                                     · (try first | replace Q42 := bn_t Q42 | replace Q42 := bn_f Q42)
                                                       (try first | replace Q42 := bx_t Q42 | replace Q42 := bx_f Q42 | replace Q42 := be_t Q42 | replace Q42 := be_f Q42 | replace Q42 := of_decide_eq_true Q42 | replace Q42 := of_decide_eq_false Q42)
                                                       first
                                                        | (exfalso; first | first | omega | (simp at *; omega) | contradiction | (cases Q42; done))
                                                        | skip
                                                          refine st_gno rfl rfl ?_
                                                          refine st_gno rfl rfl ?_
                                                          refine st_gno rfl rfl ?_
                                                          refine st_gno rfl rfl ?_
                                                          refine st_val (ro_pickT (v := .bool _) rfl rfl) ?_
                                                          refine st_val (ro_move (v := .bool _) rfl) ?_
                                                          refine st_gno rfl rfl ?_
                                                          refine st_gno rfl rfl ?_
                                                          refine st_gno rfl rfl ?_
                                                          refine st_gno rfl rfl ?_
                                                          refine st_val (ro_pickT (v := .bool _) rfl rfl) ?_
                                                          refine st_val (ro_move (v := .bool _) rfl) ?_
                                                          refine st_gno rfl rfl ?_
                                                          refine st_gno rfl rfl ?_
                                                          refine st_gno rfl rfl ?_
                                                          refine st_gno rfl rfl ?_
                                                          refine st_gno rfl rfl ?_
                                                          refine st_gno rfl rfl ?_
                                                          refine st_gno rfl rfl ?_
                                                          refine st_val (ro_pickT (v := .bool _) rfl rfl) ?_
                                                          refine st_nil ?_
                                                          refine nx_then ?_
                                                          refine cd_condT rfl ?_
                                                          refine cd_seq ?_
                                                          refine cd_region ?_
                                                          refine st_val (ro_assign (v := .bool _) rfl) ?_
                                                          refine st_nil ?_
                                                          refine nx_then ?_
                                                          refine cd_ret ?_
                                                          refine rt_block ?_
                                                          refine rt_then ?_
                                                          refine rt_then ?_
                                                          refine rt_block ?_
                                                          refine rt_then ?_
                                                          refine rt_block ?_
                                                          refine rt_then ?_
                                                          refine rt_then ?_
                                                          refine rt_block ?_
                                                          refine rt_then ?_
                                                          refine res1 (v := .bool _) rfl rfl ?_
                                                          exact ⟨rfl, ((((((hB.next D26).next E86).next E8).only O9 (hg8)).next E91).next E102)⟩
                                                     · (try first | replace Q42 := bn_t Q42 | replace Q42 := bn_f Q42)
                                                       (try first | replace Q42 := bx_t Q42 | replace Q42 := bx_f Q42 | replace Q42 := be_t Q42 | replace Q42 := be_f Q42 | replace Q42 := of_decide_eq_true Q42 | replace Q42 := of_decide_eq_false Q42)
                                                       first
                                                        | (exfalso; first | first | omega | (simp at *; omega) | contradiction | (cases Q42; done))
                                                        | skip
                                                          refine st_unguard rfl ?_
                                                          refine st_val (ro_fieldAddr EntCompacts_f25_0 rfl) ?_
                                                          refine st_unguard rfl ?_
                                                          refine st_val (ro_load EntCompacts_g3 rfl (by first | exact (P9.from_ ((From.rfl_.next E91).next E102)).whole | exact (P9.from_ ((From.rfl_.next E91).next E102)).rd 0 rfl | exact (P9.from_ ((From.rfl_.next E91).next E102)).rd 1 rfl | exact (P9.from_ ((From.rfl_.next E91).next E102)).rd 2 rfl)) ?_
                                                          refine st_unguard rfl ?_
                                                          refine st_val (ro_move (v := .int _ _) rfl) ?_
                                                          refine st_unguard rfl ?_
                                                          refine st_val (ro_neq rfl rfl) ?_
                                                          refine st_val (ro_pickF (v := .bool _) rfl rfl) ?_
                                                          refine st_val (ro_move (v := .bool _) rfl) ?_
                                                          refine st_split (t := 139) rfl (fun Q43 => ?_) (fun Q43 => ?_)
                                                          · (try first | replace Q43 := bn_t Q43 | replace Q43 := bn_f Q43)
                                                            (try first | replace Q43 := bx_t Q43 | replace Q43 := bx_f Q43 | replace Q43 := be_t Q43 | replace Q43 := be_f Q43 | replace Q43 := of_decide_eq_true Q43 | replace Q43 := of_decide_eq_false Q43)
                                                            first
                                                             | (exfalso; first | first | omega | (simp at *; omega) | contradiction | (cases Q43; done))
                                                             | skip
                                                               refine st_gno rfl rfl ?_
                                                               refine st_gno rfl rfl ?_
                                                               refine st_gno rfl rfl ?_
                                                               refine st_gno rfl rfl ?_
                                                               refine st_val (ro_pickT (v := .bool _) rfl rfl) ?_
                                                               refine st_val (ro_move (v := .bool _) rfl) ?_
                                                               refine st_gno rfl rfl ?_
                                                               refine st_gno rfl rfl ?_
                                                               refine st_gno rfl rfl ?_
                                                               refine st_gno rfl rfl ?_
                                                               refine st_gno rfl rfl ?_
                                                               refine st_gno rfl rfl ?_
                                                               refine st_gno rfl rfl ?_
                                                               refine st_val (ro_pickT (v := .bool _) rfl rfl) ?_
                                                               refine st_nil ?_
                                                               refine nx_then ?_
                                                               refine cd_condT rfl ?_
                                                               refine cd_seq ?_
                                                               refine cd_region ?_
                                                               refine st_val (ro_assign (v := .bool _) rfl) ?_
                                                               refine st_nil ?_
                                                               refine nx_then ?_
                                                               refine cd_ret ?_
                                                               refine rt_block ?_
                                                               refine rt_then ?_
                                                               refine rt_then ?_
                                                               refine rt_block ?_
                                                               refine rt_then ?_
                                                               refine rt_block ?_
                                                               refine rt_then ?_
                                                               refine rt_then ?_
                                                               refine rt_block ?_
                                                               refine rt_then ?_
                                                               refine res1 (v := .bool _) rfl rfl ?_
                                                               exact ⟨rfl, ((((((hB.next D26).next E86).next E8).only O9 (hg8)).next E91).next E102)⟩
                                                          · (try first | replace Q43 := bn_t Q43 | replace Q43 := bn_f Q43)
                                                            (try first | replace Q43 := bx_t Q43 | replace Q43 := bx_f Q43 | replace Q43 := be_t Q43 | replace Q43 := be_f Q43 | replace Q43 := of_decide_eq_true Q43 | replace Q43 := of_decide_eq_false Q43)
                                                            first
                                                             | (exfalso; first | first | omega | (simp at *; omega) | contradiction | (cases Q43; done))
                                                             | skip
                                                               refine st_unguard rfl ?_
                                                               refine st_val (ro_fieldAddr EntCompacts_f25_1 rfl) ?_
                                                               refine st_unguard rfl ?_
                                                               refine st_val (ro_load EntCompacts_g3 rfl (by first | exact (P9.from_ ((From.rfl_.next E91).next E102)).whole | exact (P9.from_ ((From.rfl_.next E91).next E102)).rd 0 rfl | exact (P9.from_ ((From.rfl_.next E91).next E102)).rd 1 rfl | exact (P9.from_ ((From.rfl_.next E91).next E102)).rd 2 rfl)) ?_
                                                               refine st_unguard rfl ?_
                                                               refine st_val (ro_move (v := .int _ _) rfl) ?_
                                                               refine st_unguard rfl ?_
                                                               refine st_val (ro_neq rfl rfl) ?_
                                                               refine st_val (ro_pickF (v := .bool _) rfl rfl) ?_
                                                               refine st_val (ro_move (v := .bool _) rfl) ?_
                                                               refine st_split (t := 145) rfl (fun Q44 => ?_) (fun Q44 => ?_)
                                                               · (try first | replace Q44 := bn_t Q44 | replace Q44 := bn_f Q44)
                                                                 (try first | replace Q44 := bx_t Q44 | replace Q44 := bx_f Q44 | replace Q44 := be_t Q44 | replace Q44 := be_f Q44 | replace Q44 := of_decide_eq_true Q44 | replace Q44 := of_decide_eq_false Q44)
                                                                 first
                                                                  | (exfalso; first | first | omega | (simp at *; omega) | contradiction | (cases Q44; done))
                                                                  | skip
                                                                    refine st_gno rfl rfl ?_
                                                                    refine st_gno rfl rfl ?_
                                                                    refine st_gno rfl rfl ?_
                                                                    refine st_gno rfl rfl ?_
                                                                    refine st_gno rfl rfl ?_
                                                                    refine st_gno rfl rfl ?_
                                                                    refine st_gno rfl rfl ?_
                                                                    refine st_val (ro_pickT (v := .bool _) rfl rfl) ?_
                                                                    refine st_nil ?_
                                                                    refine nx_then ?_
                                                                    refine cd_condT rfl ?_
                                                                    refine cd_seq ?_
                                                                    refine cd_region ?_
                                                                    refine st_val (ro_assign (v := .bool _) rfl) ?_
                                                                    refine st_nil ?_
                                                                    refine nx_then ?_
                                                                    refine cd_ret ?_
                                                                    refine rt_block ?_
                                                                    refine rt_then ?_
                                                                    refine rt_then ?_
                                                                    refine rt_block ?_
                                                                    refine rt_then ?_
                                                                    refine rt_block ?_
                                                                    refine rt_then ?_
                                                                    refine rt_then ?_
                                                                    refine rt_block ?_
                                                                    refine rt_then ?_
                                                                    refine res1 (v := .bool _) rfl rfl ?_
                                                                    exact ⟨rfl, ((((((hB.next D26).next E86).next E8).only O9 (hg8)).next E91).next E102)⟩
                                                               · (try first | replace Q44 := bn_t Q44 | replace Q44 := bn_f Q44)
                                                                 (try first | replace Q44 := bx_t Q44 | replace Q44 := bx_f Q44 | replace Q44 := be_t Q44 | replace Q44 := be_f Q44 | replace Q44 := of_decide_eq_true Q44 | replace Q44 := of_decide_eq_false Q44)
                                                                 first
                                                                  | (exfalso; first | first | omega | (simp at *; omega) | contradiction | (cases Q44; done))
                                                                  | skip
                                                                    refine st_unguard rfl ?_
                                                                    refine st_val (ro_fieldAddr EntCompacts_f25_2 rfl) ?_
                                                                    refine st_unguard rfl ?_
                                                                    refine st_val (ro_load EntCompacts_g23 rfl (by first | exact (P9.from_ ((From.rfl_.next E91).next E102)).whole | exact (P9.from_ ((From.rfl_.next E91).next E102)).rd 0 rfl | exact (P9.from_ ((From.rfl_.next E91).next E102)).rd 1 rfl | exact (P9.from_ ((From.rfl_.next E91).next E102)).rd 2 rfl)) ?_
                                                                    refine st_unguard rfl ?_
                                                                    refine st_val (ro_len EntCompacts_l23 rfl) ?_
                                                                    refine st_unguard rfl ?_
                                                                    refine st_val (ro_move (v := .int _ _) rfl) ?_
                                                                    refine st_unguard rfl ?_
                                                                    refine st_val (ro_move (v := .int _ _) rfl) ?_
                                                                    refine st_unguard rfl ?_
                                                                    refine st_val (ro_sub64 rfl rfl (by omega)) ?_
                                                                    refine st_unguard rfl ?_
                                                                    refine st_val (ro_neq rfl rfl) ?_
                                                                    refine st_val (ro_pickF (v := .bool _) rfl rfl) ?_
                                                                    refine st_nil ?_
                                                                    refine nx_then ?_
                                                                    refine cd_cond rfl (fun Q45 => ?_) (fun Q45 => ?_)
                                                                    · (try first | replace Q45 := bn_t Q45 | replace Q45 := bn_f Q45)
                                                                      (try first | replace Q45 := bx_t Q45 | replace Q45 := bx_f Q45 | replace Q45 := be_t Q45 | replace Q45 := be_f Q45 | replace Q45 := of_decide_eq_true Q45 | replace Q45 := of_decide_eq_false Q45)
                                                                      first
                                                                       | (exfalso; first | first | omega | (simp at *; omega) | contradiction | (cases Q45; done))
                                                                       | skip
                                                                         refine cd_seq ?_
                                                                         refine cd_region ?_
                                                                         refine st_val (ro_assign (v := .bool _) rfl) ?_
                                                                         refine st_nil ?_
                                                                         refine nx_then ?_
                                                                         refine cd_ret ?_
                                                                         refine rt_block ?_
                                                                         refine rt_then ?_
                                                                         refine rt_then ?_
                                                                         refine rt_block ?_
                                                                         refine rt_then ?_
                                                                         refine rt_block ?_
                                                                         refine rt_then ?_
                                                                         refine rt_then ?_
                                                                         refine rt_block ?_
                                                                         refine rt_then ?_
                                                                         refine res1 (v := .bool _) rfl rfl ?_
                                                                         exact ⟨rfl, ((((((hB.next D26).next E86).next E8).only O9 (hg8)).next E91).next E102)⟩
                                                                    · (try first | replace Q45 := bn_t Q45 | replace Q45 := bn_f Q45)
                                                                      (try first | replace Q45 := bx_t Q45 | replace Q45 := bx_f Q45 | replace Q45 := be_t Q45 | replace Q45 := be_f Q45 | replace Q45 := of_decide_eq_true Q45 | replace Q45 := of_decide_eq_false Q45)
                                                                      first
                                                                       | (exfalso; first | first | omega | (simp at *; omega) | contradiction | (cases Q45; done))
                                                                       | skip
                                                                         refine cd_skip ?_
                                                                         refine nx_block ?_
                                                                         refine nx_then ?_
                                                                         refine cd_region ?_
                                                                         refine st_val (ro_move (v := .int _ _) rfl) ?_
                                                                         refine st_val (ro_add64 rfl rfl (by omega)) ?_
                                                                         refine st_val (ro_assign (v := .int _ _) rfl) ?_
                                                                         refine st_nil ?_
                                                                         refine nx_cut (j + 1) ⟨(by first | rfl | (refine int_eq ?_; omega)), trivial⟩ (by (iterate 211 refine agr_cons rfl ?_); exact agr_rfl) ⟨?_, ?_⟩
                                                                         · exact ⟨by omega, ((((((hB.next D26).next E86).next E8).only O9 (hg8)).next E91).next E102)⟩
                                                                         · omega
                       · (try first | replace Q27 := bn_t Q27 | replace Q27 := bn_f Q27)
                         (try first | replace Q27 := bx_t Q27 | replace Q27 := bx_f Q27 | replace Q27 := be_t Q27 | replace Q27 := be_f Q27 | replace Q27 := of_decide_eq_true Q27 | replace Q27 := of_decide_eq_false Q27)
                         first
                          | (exfalso; first | first | omega | (simp at *; omega) | contradiction | (cases Q27; done))
                          | skip
                            refine cd_exit ?_
                            refine ex_then ?_
                            refine ex_then ?_
                            refine ex_block ?_
                            refine nx_then ?_
                            refine cd_seq ?_
                            apply cd_drawnL 16 [(155, eqp _), (156, eqp _), (157, eqp _), (158, eqp _), (159, eqp _), (160, eqp _), (161, eqp _), (162, eqp _), (163, eqp _), (164, eqp _), (165, eqp _), (166, eqp _), (154, eqp _), (167, eqp _), (168, eqp _), (15, fun v w' => ∃ g, v = .pointer (some ⟨g, 0, none⟩) ∧ w.heap.size ≤ g ∧ Blk w' g 25 #[.int .i64 0, .int .i64 0, .slice none 0 0])] (by repeat first | exact pq_body | refine pq_then ?_ | refine pq_block ?_) (by kernel_rfl) (by kernel_rfl) ⟨eqp_mono _, eqp_mono _, eqp_mono _, eqp_mono _, eqp_mono _, eqp_mono _, eqp_mono _, eqp_mono _, eqp_mono _, eqp_mono _, eqp_mono _, eqp_mono _, eqp_mono _, eqp_mono _, eqp_mono _, (fun v w1 w2 hF ⟨g, h1, h2, h3⟩ => ⟨g, h1, h2, h3.from_ hF⟩), trivial⟩
                            case hop =>
                             refine ⟨?_, ?_⟩
                             · intro w47 D47
                               show OpOK _ _ _ _ _ _ _
                               exact ok_pure (ro_move (v := .slice _ _ _) rfl) rfl
                             refine ⟨?_, ?_⟩
                             · intro w48 D48
                               show OpOK _ _ _ _ _ _ _
                               exact ok_pure (ro_move (v := .int _ _) rfl) rfl
                             refine ⟨?_, ?_⟩
                             · intro w49 D49
                               rintro _ rfl _ rfl
                               show OpOK _ _ _ _ _ _ _
                               exact ok_pure (ro_indexAddrN EntCompacts_e22 rfl rfl (by omega)) rfl
                             refine ⟨?_, ?_⟩
                             · intro w50 D50
                               rintro _ rfl
                               show OpOK _ _ _ _ _ _ _
                               exact ok_pure (ro_fieldAddr EntCompacts_f27_0 rfl) rfl
                             refine ⟨?_, ?_⟩
                             · intro w51 D51
                               rintro _ rfl
                               show OpOK _ _ _ _ _ _ _
                               exact ok_pure (ro_loadA (cs := [_, _, _]) EntCompacts_g25 EntCompacts_z25 rfl (by first | (first | exact rangeF ((hB.next D26).next D51) hat.rlog | exact rangeF ((hB.next D26).next D51) hat.all | exact cellF ((hB.next D26).next D51) hat.c0 | exact cellF ((hB.next D26).next D51) hat.c1 | exact cellF ((hB.next D26).next D51) hat.c2 | exact cellF ((hB.next D26).next D51) hat.c3))) rfl
                             refine ⟨?_, ?_⟩
                             · intro w52 D52
                               show OpOK _ _ _ _ _ _ _
                               exact ok_pure (ro_move (v := .slice _ _ _) rfl) rfl
                             refine ⟨?_, ?_⟩
                             · intro w53 D53
                               show OpOK _ _ _ _ _ _ _
                               exact ok_pure (ro_move (v := .int _ _) rfl) rfl
                             refine ⟨?_, ?_⟩
                             · intro w54 D54
                               rintro _ rfl _ rfl
                               show OpOK _ _ _ _ _ _ _
                               exact ok_pure (ro_indexAddrN EntCompacts_e22 rfl rfl (by omega)) rfl
                             refine ⟨?_, ?_⟩
                             · intro w55 D55
                               rintro _ rfl
                               show OpOK _ _ _ _ _ _ _
                               exact ok_pure (ro_fieldAddr EntCompacts_f27_0 rfl) rfl
                             refine ⟨?_, ?_⟩
                             · intro w56 D56
                               rintro _ rfl
                               show OpOK _ _ _ _ _ _ _
                               exact ok_pure (ro_fieldAddr EntCompacts_f25_0 rfl) rfl
                             refine ⟨?_, ?_⟩
                             · intro w57 D57
                               rintro _ rfl
                               show OpOK _ _ _ _ _ _ _
                               exact ok_pure (ro_load EntCompacts_g3 rfl (by first | (first | exact rangeF ((hB.next D26).next D57) hat.rlog | exact rangeF ((hB.next D26).next D57) hat.all | exact cellF ((hB.next D26).next D57) hat.c0 | exact cellF ((hB.next D26).next D57) hat.c1 | exact cellF ((hB.next D26).next D57) hat.c2 | exact cellF ((hB.next D26).next D57) hat.c3))) rfl
                             refine ⟨?_, ?_⟩
                             · intro w58 D58
                               rintro _ rfl _ rfl
                               show OpOK _ _ _ _ _ _ _
                               refine ok_call EntCompacts_k31 ((compact_out B T _ A1 _ c1 xs _ (hat.log.from_ ((hB.next D26).next D58)) hm (by omega)).mono ?_)
                               rintro v _ ⟨rfl, E58'⟩; exact ⟨E58', rfl⟩
                             refine ⟨?_, ?_⟩
                             · intro w59 D59
                               rintro _ rfl
                               show OpOK _ _ _ _ _ _ _
                               exact ok_pure (ro_move (v := .tuple _) rfl) rfl
                             refine ⟨?_, ?_⟩
                             · intro w60 D60
                               rintro _ rfl
                               show OpOK _ _ _ _ _ _ _
                               exact ok_pure (ro_extract rfl rfl) rfl
                             refine ⟨?_, ?_⟩
                             · intro w61 D61
                               rintro _ rfl
                               show OpOK _ _ _ _ _ _ _
                               exact ok_pure (ro_extract rfl rfl) rfl
                             refine ⟨?_, ?_⟩
                             · intro w62 D62
                               show OpOK _ _ _ _ _ _ _
                               exact ok_val (ro_alloc EntCompacts_o25) (From.rfl_.new _) ⟨_, rfl, (((hB.next D26).next D62)).size, Blk.new _ _ _⟩
                             exact trivial
                            case hend =>
                             intro w63 D63
                             rintro _ rfl _ rfl _ rfl _ rfl _ rfl _ rfl _ rfl _ rfl _ rfl _ rfl _ rfl _ rfl _ rfl _ rfl _ rfl v15 ⟨g63, rfl, hg63, hk63⟩
                             show St _ _ _ _ _ _ _
                             have hg := hg63
                             have hk15 := hk63
                             refine st_putW (vs := [_, _, _]) EntCompacts_z25 rfl rfl (by simp [Value.oneCell']) (hk15) rfl ?_
                             intro w64 O14 P14
                             refine st_val (ro_assign (v := .int _ _) rfl) ?_
                             refine st_nil ?_
                             refine nx_then ?_
                             refine cd_seq ?_
                             refine cd_region ?_
                             refine st_val (ro_move (v := .slice _ _ _) rfl) ?_
                             refine st_val (ro_move (v := .int _ _) rfl) ?_
                             refine st_val (ro_indexAddrN EntCompacts_e22 rfl rfl (by omega)) ?_
                             refine st_val (ro_fieldAddr EntCompacts_f27_0 rfl) ?_
                             refine st_val (ro_loadA (cs := [_, _, _]) EntCompacts_g25 EntCompacts_z25 rfl (by first | (first | exact rangeF (((hB.next D26).next D63).only O14 (hg)) hat.rlog | exact rangeF (((hB.next D26).next D63).only O14 (hg)) hat.all | exact cellF (((hB.next D26).next D63).only O14 (hg)) hat.c0 | exact cellF (((hB.next D26).next D63).only O14 (hg)) hat.c1 | exact cellF (((hB.next D26).next D63).only O14 (hg)) hat.c2 | exact cellF (((hB.next D26).next D63).only O14 (hg)) hat.c3))) ?_
                             refine st_val (ro_move (v := .int _ _) rfl) ?_
                             refine st_val (ro_add64 rfl rfl (by omega)) ?_
                             refine st_call EntCompacts_k31 (compact_out B T _ A1 _ c1 xs _ (hat.log.from_ (((hB.next D26).next D63).only O14 (hg))) hm (by omega)) ?_
                             rintro v177 w65 ⟨rfl, E177⟩
                             refine st_val (ro_move (v := .tuple _) rfl) ?_
                             refine st_val (ro_extract rfl rfl) ?_
                             refine st_val (ro_extract rfl rfl) ?_
                             refine st_alloc EntCompacts_o25 ?_
                             intro b17 w66 E17 hb17 hk17
                             have hg17 : w.heap.size ≤ b17 := by rw [hb17]; exact (((((hB.next D26).next D63).only O14 (hg)).next E177)).size
                             refine st_putW (vs := [_, _, _]) EntCompacts_z25 rfl rfl (by simp [Value.oneCell']) (hk17) rfl ?_
                             intro w67 O15 P15
                             refine st_val (ro_assign (v := .int _ _) rfl) ?_
                             refine st_nil ?_
                             refine nx_then ?_
                             refine cd_seq ?_
                             refine cd_region ?_
                             refine st_val (ro_move (v := .int _ _) rfl) ?_
                             refine st_call EntCompacts_k23 (Rt.of (errnum_any _ _)) ?_
                             rintro v181 w68 ⟨rfl, rfl⟩
                             refine st_val (ro_neq rfl rfl) ?_
                             refine st_val (ro_move (v := .bool _) rfl) ?_
                             refine st_split (t := 183) rfl (fun Q69 => ?_) (fun Q69 => ?_)
                             · (try first | replace Q69 := bn_t Q69 | replace Q69 := bn_f Q69)
                               (try first | replace Q69 := bx_t Q69 | replace Q69 := bx_f Q69 | replace Q69 := be_t Q69 | replace Q69 := be_f Q69 | replace Q69 := of_decide_eq_true Q69 | replace Q69 := of_decide_eq_false Q69)
                               first
                                | (exfalso; first | first | omega | (simp at *; omega) | contradiction | (cases Q69; done))
                                | skip
                                  refine st_gno rfl rfl ?_
                                  refine st_gno rfl rfl ?_
                                  refine st_gno rfl rfl ?_
                                  refine st_val (ro_pickT (v := .bool _) rfl rfl) ?_
                                  refine st_nil ?_
                                  refine nx_then ?_
                                  refine cd_condT rfl ?_
                                  refine cd_seq ?_
                                  refine cd_region ?_
                                  refine st_val (ro_assign (v := .bool _) rfl) ?_
                                  refine st_nil ?_
                                  refine nx_then ?_
                                  refine cd_ret ?_
                                  refine rt_block ?_
                                  refine rt_then ?_
                                  refine rt_then ?_
                                  refine rt_block ?_
                                  refine rt_then ?_
                                  refine res1 (v := .bool _) rfl rfl ?_
                                  exact ⟨rfl, ((((((hB.next D26).next D63).only O14 (hg)).next E177).next E17).only O15 (hg17))⟩
                             · (try first | replace Q69 := bn_t Q69 | replace Q69 := bn_f Q69)
                               (try first | replace Q69 := bx_t Q69 | replace Q69 := bx_f Q69 | replace Q69 := be_t Q69 | replace Q69 := be_f Q69 | replace Q69 := of_decide_eq_true Q69 | replace Q69 := of_decide_eq_false Q69)
                               first
                                | (exfalso; first | first | omega | (simp at *; omega) | contradiction | (cases Q69; done))
                                | skip
                                  refine st_unguard rfl ?_
                                  refine st_val (ro_move (v := .int _ _) rfl) ?_
                                  refine st_unguard rfl ?_
                                  refine st_call EntCompacts_k23 (Rt.of (errnum_any _ _)) ?_
                                  rintro v185 w70 ⟨rfl, rfl⟩
                                  refine st_unguard rfl ?_
                                  refine st_val (ro_neq rfl rfl) ?_
                                  refine st_val (ro_pickF (v := .bool _) rfl rfl) ?_
                                  refine st_nil ?_
                                  refine nx_then ?_
                                  refine cd_cond rfl (fun Q71 => ?_) (fun Q71 => ?_)
                                  · (try first | replace Q71 := bn_t Q71 | replace Q71 := bn_f Q71)
                                    (try first | replace Q71 := bx_t Q71 | replace Q71 := bx_f Q71 | replace Q71 := be_t Q71 | replace Q71 := be_f Q71 | replace Q71 := of_decide_eq_true Q71 | replace Q71 := of_decide_eq_false Q71)
                                    first
                                     | (exfalso; first | first | omega | (simp at *; omega) | contradiction | (cases Q71; done))
                                     | skip
                                       refine cd_seq ?_
                                       refine cd_region ?_
                                       refine st_val (ro_assign (v := .bool _) rfl) ?_
                                       refine st_nil ?_
                                       refine nx_then ?_
                                       refine cd_ret ?_
                                       refine rt_block ?_
                                       refine rt_then ?_
                                       refine rt_then ?_
                                       refine rt_block ?_
                                       refine rt_then ?_
                                       refine res1 (v := .bool _) rfl rfl ?_
                                       exact ⟨rfl, ((((((hB.next D26).next D63).only O14 (hg)).next E177).next E17).only O15 (hg17))⟩
                                  · (try first | replace Q71 := bn_t Q71 | replace Q71 := bn_f Q71)
                                    (try first | replace Q71 := bx_t Q71 | replace Q71 := bx_f Q71 | replace Q71 := be_t Q71 | replace Q71 := be_f Q71 | replace Q71 := of_decide_eq_true Q71 | replace Q71 := of_decide_eq_false Q71)
                                    first
                                     | (exfalso; first | first | omega | (simp at *; omega) | contradiction | (cases Q71; done))
                                     | skip
                                       refine cd_skip ?_
                                       refine nx_block ?_
                                       refine nx_then ?_
                                       refine cd_region ?_
                                       refine st_val (ro_move (v := .int _ _) rfl) ?_
                                       refine st_val (ro_addN (b := 1) rfl rfl (by omega)) ?_
                                       refine st_val (ro_assign (v := .int _ _) rfl) ?_
                                       refine st_nil ?_
                                       refine nx_cut (k + 1) ⟨(by first | rfl | (refine int_eq ?_; omega)), trivial⟩ (by (iterate 392 refine agr_cons rfl ?_); exact agr_rfl) ⟨?_, ?_⟩
                                       · exact ⟨by omega, ((((((hB.next D26).next D63).only O14 (hg)).next E177).next E17).only O15 (hg17))⟩
                                       · omega
       · (try first | replace Q3 := bn_t Q3 | replace Q3 := bn_f Q3)
         (try first | replace Q3 := bx_t Q3 | replace Q3 := bx_f Q3 | replace Q3 := be_t Q3 | replace Q3 := be_f Q3 | replace Q3 := of_decide_eq_true Q3 | replace Q3 := of_decide_eq_false Q3)
         first
          | (exfalso; first | first | omega | (simp at *; omega) | contradiction | (cases Q3; done))
          | skip
            refine cd_exit ?_
            refine ex_then ?_
            refine ex_then ?_
            refine ex_block ?_
            refine nx_then ?_
            refine cd_seq ?_
            refine cd_region ?_
            refine st_call EntCompacts_k35 (Rt.of (wakes_any _)) ?_
            rintro v188 w72 ⟨rfl, E188⟩
            refine st_val (ro_assign (v := .bool _) rfl) ?_
            refine st_nil ?_
            refine nx_then ?_
            refine cd_ret ?_
            refine res1 (v := .bool _) rfl rfl ?_
            exact ⟨rfl, (hB.next E188)⟩
  · (try first | replace Q2 := bn_t Q2 | replace Q2 := bn_f Q2)
    (try first | replace Q2 := bx_t Q2 | replace Q2 := bx_f Q2 | replace Q2 := be_t Q2 | replace Q2 := be_f Q2 | replace Q2 := of_decide_eq_true Q2 | replace Q2 := of_decide_eq_false Q2)
    first
     | (exfalso; first | first | omega | (simp at *; omega) | contradiction | (cases Q2; done))
     | skip
       refine st_gno rfl rfl ?_
       refine st_gno rfl rfl ?_
       refine st_val (ro_pickF (v := .bool _) rfl rfl) ?_
       refine st_nil ?_
       refine nx_then ?_
       refine cd_condF rfl ?_
       refine cd_exit ?_
       refine ex_then ?_
       refine ex_then ?_
       refine ex_block ?_
       refine nx_then ?_
       refine cd_seq ?_
       refine cd_region ?_
       refine st_call EntCompacts_k35 (Rt.of (wakes_any _)) ?_
       rintro v188 w73 ⟨rfl, E188⟩
       refine st_val (ro_assign (v := .bool _) rfl) ?_
       refine st_nil ?_
       refine nx_then ?_
       refine cd_ret ?_
       refine res1 (v := .bool _) rfl rfl ?_
       exact ⟨rfl, (hB.next E188)⟩
set_option maxRecDepth 100000 in
theorem EntriesCompacts_lifted (os : Os) (started : os.Started) (H : Type) (enc : TypeId × Value → H) :
    ReturnsInHanded {} Try.checked os 10 .any (Rows.entriesCompactsSpec.pre6 enc Try.prog Try.f10 Rows.entriesCompactsRow.domain false) (Rows.entriesCompactsSpec.post enc Try.prog Try.f10 false true false false) := by
  refine returnsInHanded_of_change_sized (C := Try.checked) Try.own started (by kernel_rfl) Try.func10
    (ChangeSpec.witness6 (enc := enc) (C := Try.checked) false ⟨#[], #[.slice none 0 0], []⟩ 8 (by kernel_rfl) (by kernel_rfl) (by kernel_rfl) (by kernel_rfl)) ?_
  intro W base args ds gs before hval hW _ hsz _
  exact law_step 10 Try.f10 22 4 Rows.entriesCompactsSpec Try.params10 (by kernel_rfl) Try.underlying4 rfl (fun _ => rfl) (by kernel_rfl) (of_decide_eq_true (by kernel_rfl)) (walk_rt compacts_law) W base args ds gs before hval hW hsz

theorem EntriesCompacts_holds : Rows.EntriesCompactsSaid :=
  OpenClaim.holds_of_wide 10 Try.f10 rfl rfl rfl rfl rfl rfl rfl ⟨rfl, rfl, rfl, rfl, rfl⟩ rfl rfl rfl rfl rfl (by kernel_rfl) Try.func10 (by kernel_rfl)
    (of_decide_eq_true (by kernel_rfl)) (by unfold Func.isWrapper; first | (rw [if_pos (by decide +kernel)]; kernel_rfl) | (rw [if_neg (by decide +kernel)]; exact ⟨rfl, rfl⟩))
    (fun os started H enc _ => EntriesCompacts_lifted os started H enc)
#print axioms EntriesCompacts_holds

end Go.Proofs.Ytnnknoohhoifbaa
