/- The law EntriesExact. -/
import Derived.Test.YtnnknoohhoifbaaEntExact
import Derived.Test.YtnnknoohhoifbaaEntAgain
namespace Go.Proofs.Ytnnknoohhoifbaa
open Go.RowKit
open Go.ChangeShapes Go.WideShapes Go.ChangeAt
theorem EntLaw9_g25 : aggQ Try.prog 25 = some true := by kernel_rfl
theorem EntLaw9_z25 : sizeQ Try.prog 25 = some 3 := by kernel_rfl
theorem EntLaw9_k24 : callable Try.prog 24 = true := by kernel_rfl
theorem EntLaw9_k42 : callable Try.prog 42 = true := by kernel_rfl
theorem EntLaw9_e22 : elemQ Try.prog 22 = some (27, 7) := by kernel_rfl
theorem EntLaw9_l22 : (elemQ Try.prog 22).isSome = true := by kernel_rfl
theorem EntLaw9_g27 : aggQ Try.prog 27 = some true := by kernel_rfl
theorem EntLaw9_z27 : sizeQ Try.prog 27 = some 7 := by kernel_rfl
theorem EntLaw9_o27 : zeroQ Try.prog 27 = some (.agg #[.int .i64 0, .int .i64 0, .slice none 0 0, .int .i64 0, .int .i64 0, .slice none 0 0, .int .i64 0]) := by kernel_rfl
theorem EntLaw9_k12 : callable Try.prog 12 = true := by kernel_rfl
theorem EntLaw9_f27_0 : fieldQ Try.prog 27 0 = some 0 := by kernel_rfl
theorem EntLaw9_f25_2 : fieldQ Try.prog 25 2 = some 2 := by kernel_rfl
theorem EntLaw9_g23 : aggQ Try.prog 23 = some false := by kernel_rfl
theorem EntLaw9_l23 : (elemQ Try.prog 23).isSome = true := by kernel_rfl
theorem EntLaw9_k13 : callable Try.prog 13 = true := by kernel_rfl
theorem EntLaw9_o25 : zeroQ Try.prog 25 = some (.agg #[.int .i64 0, .int .i64 0, .slice none 0 0]) := by kernel_rfl
theorem EntLaw9_f27_3 : fieldQ Try.prog 27 3 = some 5 := by kernel_rfl
theorem EntLaw9_k14 : callable Try.prog 14 = true := by kernel_rfl
theorem EntLaw9_k15 : callable Try.prog 15 = true := by kernel_rfl
theorem EntLaw9_k16 : callable Try.prog 16 = true := by kernel_rfl
theorem EntLaw9_k17 : callable Try.prog 17 = true := by kernel_rfl
theorem EntLaw9_f27_1 : fieldQ Try.prog 27 1 = some 3 := by kernel_rfl
theorem EntLaw9_g3 : aggQ Try.prog 3 = some false := by kernel_rfl
theorem EntLaw9_f25_0 : fieldQ Try.prog 25 0 = some 0 := by kernel_rfl
theorem EntLaw9_k18 : callable Try.prog 18 = true := by kernel_rfl
theorem EntLaw9_f27_4 : fieldQ Try.prog 27 4 = some 6 := by kernel_rfl
theorem EntLaw9_k19 : callable Try.prog 19 = true := by kernel_rfl
theorem EntLaw9_k20 : callable Try.prog 20 = true := by kernel_rfl
theorem EntLaw9_k21 : callable Try.prog 21 = true := by kernel_rfl
theorem EntLaw9_f27_2 : fieldQ Try.prog 27 2 = some 4 := by kernel_rfl
theorem EntLaw9_k22 : callable Try.prog 22 = true := by kernel_rfl
theorem EntLaw9_k23 : callable Try.prog 23 = true := by kernel_rfl
theorem EntLaw9_k25 : callable Try.prog 25 = true := by kernel_rfl
theorem EntLaw9_k26 : callable Try.prog 26 = true := by kernel_rfl
theorem EntLaw9_k27 : callable Try.prog 27 = true := by kernel_rfl
theorem EntLaw9_k28 : callable Try.prog 28 = true := by kernel_rfl
theorem EntLaw9_k29 : callable Try.prog 29 = true := by kernel_rfl
theorem EntLaw9_k30 : callable Try.prog 30 = true := by kernel_rfl
theorem EntLaw9_k31 : callable Try.prog 31 = true := by kernel_rfl
theorem EntLaw9_k32 : callable Try.prog 32 = true := by kernel_rfl
theorem EntLaw9_k33 : callable Try.prog 33 = true := by kernel_rfl
theorem EntLaw9_k34 : callable Try.prog 34 = true := by kernel_rfl
theorem EntLaw9_k35 : callable Try.prog 35 = true := by kernel_rfl
theorem ToldL.kept {w w' : World} {bs : Nat} {err B T X Y : Int} {ys : List Ent} {A : Option Addr} {n c : Nat} {r : Option Nat} (h : ToldL w bs err B T ys X Y A n c) (hg : w.grownBy w' r) (hne : ∀ k, r = some k → k < bs) : ToldL w' bs err B T ys X Y A n c := ⟨h.x, h.y, own_kept h.own hg hne⟩
theorem ToldL.len {w : World} {bs : Nat} {err B T X Y : Int} {ys : List Ent} {A : Option Addr} {n c : Nat} (h : ToldL w bs err B T ys X Y A n c) : n ≤ ys.length := by
  have := h.own.1
  rw [entV_length] at this
  split at this
  · omega
  · simp at this; omega
theorem told_ok {w : World} {bs : Nat} {err B T : Int} {ys : List Ent} {A : Option Addr} {n c : Nat} (he : err = 0) (ho : w.ownsRow bs 63 3 (.slice A n c) n (entV ys)) : ToldL w bs err B T ys B T A n c :=
  ⟨by rw [if_pos he], by rw [if_pos he], by rw [if_pos he]; exact ho⟩
/-- a log as it was told, that stands in a variable -/
def Told (w : World) (b bs : Nat) (err B T : Int) (ys : List Ent) : Prop := ∃ X Y A n c, Blk w b 25 #[.int .i64 X, .int .i64 Y, .slice A n c] ∧ ToldL w bs err B T ys X Y A n c
theorem Told.from_ {w w' : World} {b bs : Nat} {err B T : Int} {ys : List Ent} (h : Told w b bs err B T ys) (hF : From w w') : Told w' b bs err B T ys :=
  let ⟨X, Y, A, n, c, h1, h2⟩ := h
  ⟨X, Y, A, n, c, h1.from_ hF, h2.from_ hF⟩
theorem Told.only {w w' : World} {b bs g : Nat} {err B T : Int} {ys : List Ent} (h : Told w b bs err B T ys) (o : Only g w w') (hne : b ≠ g) (hg : g < bs) : Told w' b bs err B T ys :=
  let ⟨X, Y, A, n, c, h1, h2⟩ := h
  ⟨X, Y, A, n, c, h1.only o hne, h2.only o hg⟩
theorem Told.zero {w : World} {b bs : Nat} {err B T : Int} {ys : List Ent} (h : Blk w b 25 #[.int .i64 0, .int .i64 0, .slice none 0 0]) (he : err ≠ 0) : Told w b bs err B T ys := ⟨0, 0, none, 0, 0, h, told_zero _ _ _ _ _ _ he⟩
theorem own_lt {w : World} {bs e s n c m : Nat} {A : Option Addr} {l : List Value} (h : w.ownsRow bs e s (.slice A n c) m l) : ∀ k, A.map (·.block) = some k → bs ≤ k ∧ k < w.heap.size := fun k hk => h.lt k (by rw [← hk]; cases A <;> rfl)
theorem own_ents {w : World} {bs n c : Nat} {A : Option Addr} {ys : List Ent} (h : w.ownsRow bs 63 3 (.slice A n c) n (entV ys)) : Ents w (.slice A n c) ys := by
  refine Ents.of_own h ?_
  have := h.1
  rw [entV_length] at this
  omega
theorem own_elen {w : World} {bs n c : Nat} {A : Option Addr} {ys : List Ent} (h : w.ownsRow bs 63 3 (.slice A n c) n (entV ys)) : n = ys.length := by
  have := h.1
  rw [entV_length] at this
  omega
def lI (B T : Int) (xs : List Ent) : Int := if mayLog B T xs = true then lastI B xs else 0
def lT (B T : Int) (xs : List Ent) : Int := if mayLog B T xs = true then lastT T xs else 0
def teE (B T : Int) (xs : List Ent) (i : Int) : Int := if mayLog B T xs = true then (if B ≤ i ∧ i ≤ lastI B xs then 0 else 3) else 1
def teV (B T : Int) (xs : List Ent) (i : Int) : Int := if mayLog B T xs = true then (if B ≤ i ∧ i ≤ lastI B xs then termI B T xs i else 0) else 0
def nB (B T : Int) (xs : List Ent) (i t : Int) : Bool := if mayLog B T xs = true then newB B T xs i t else false
theorem last_rt3 (B T : Int) (A : Option Addr) (n c : Nat) (xs : List Ent) (w : World) (h : Ents w (.slice A n c) xs) :
    Rt Try.prog 25 [.agg #[.int .i64 B, .int .i64 T, .slice A n c]] w fun v w' => v = .tuple #[.int .i64 (lI B T xs), .int .i64 (lT B T xs), .int .i64 (chk B T xs)] ∧ From w w' :=
  Rt.mono (Rt.of (last_any B T _ xs w h)) fun v w' h => ⟨by rw [h.1]; unfold lastV lI lT chk; split <;> rfl, h.2⟩
theorem term_rt3 (B T i : Int) (A : Option Addr) (n c : Nat) (xs : List Ent) (w : World) (h : Ents w (.slice A n c) xs) :
    Rt Try.prog 26 [.agg #[.int .i64 B, .int .i64 T, .slice A n c], .int .i64 i] w fun v w' => v = .tuple #[.int .i64 (teV B T xs i), .int .i64 (teE B T xs i)] ∧ From w w' :=
  Rt.mono (Rt.of (term_any B T i _ xs w h)) fun v w' h => ⟨by rw [h.1]; unfold termV teV teE; split <;> (try split) <;> rfl, h.2⟩
theorem refTerm_rt3 (B T i : Int) (A : Option Addr) (n c : Nat) (xs : List Ent) (w : World) (h : Ents w (.slice A n c) xs) (hm : mayLog B T xs = true) :
    Rt Try.prog 21 [.agg #[.int .i64 B, .int .i64 T, .slice A n c], .int .i64 i] w fun v w' => v = .tuple #[.int .i64 (if B ≤ i ∧ i ≤ lastI B xs then termI B T xs i else 0), .bool (decide (B ≤ i ∧ i ≤ lastI B xs))] ∧ From w w' :=
  Rt.mono (Rt.of (refTerm_any B T i _ xs w h hm)) fun v w' h => ⟨by rw [h.1]; unfold refTermV; split <;> simp_all, h.2⟩
theorem check_no (B T : Int) (A : Option Addr) (n c : Nat) (xs : List Ent) (w : World) (h : Ents w (.slice A n c) xs) (hm : ¬ mayLog B T xs = true) :
    Rt Try.prog 24 [.agg #[.int .i64 B, .int .i64 T, .slice A n c]] w fun v w' => v = .int .i64 1 ∧ From w w' :=
  Rt.mono (Rt.of (check_any B T _ xs w h)) fun v w' h => ⟨by rw [h.1]; unfold chk; rw [if_neg hm], h.2⟩
set_option maxRecDepth 100000 in
set_option maxHeartbeats 400000 in
theorem newer_no (B T i t : Int) (A : Option Addr) (c : Nat) (xs : List Ent) (w : World) (h : Ents w (.slice A xs.length c) xs) (hm : ¬ mayLog B T xs = true) :
    Rt Try.prog 27 [.agg #[.int .i64 B, .int .i64 T, .slice A xs.length c], .int .i64 i, .int .i64 t] w (fun v w' => v = .tuple #[.bool false, .int .i64 1] ∧ From w w') := by
  refine enter (n := 31) Try.func27 rfl rfl rfl ?_
  refine cd_seq ?_
  refine cd_region ?_
  refine st_box (v := .agg _) rfl ?_
  intro b3 w1 E3 hb3 hk3
  refine st_val (ro_assign (v := .bool _) rfl) ?_
  refine st_val (ro_assign (v := .int _ _) rfl) ?_
  refine st_nil ?_
  refine nx_then ?_
  refine cd_seq ?_
  refine cd_seq ?_
  refine cd_region ?_
  refine st_val (ro_loadA (cs := [_, _, _]) EntLaw9_g25 EntLaw9_z25 rfl (by first | (first | exact (hk3.from_ From.rfl_).whole | exact (hk3.from_ From.rfl_).rd 0 rfl | exact (hk3.from_ From.rfl_).rd 1 rfl | exact (hk3.from_ From.rfl_).rd 2 rfl))) ?_
  refine st_call EntLaw9_k24 (check_no B T A _ c xs _ (h.from_ (From.rfl_.next E3)) hm) ?_
  rintro v11 w2 ⟨rfl, E11⟩
  refine st_val (ro_neq rfl rfl) ?_
  refine st_nil ?_
  refine nx_then ?_
  refine cd_cond rfl (fun Q3 => ?_) (fun Q3 => ?_)
  · (try first | replace Q3 := bn_t Q3 | replace Q3 := bn_f Q3)
    (try first | replace Q3 := bx_t Q3 | replace Q3 := bx_f Q3 | replace Q3 := be_t Q3 | replace Q3 := be_f Q3 | replace Q3 := of_decide_eq_true Q3 | replace Q3 := of_decide_eq_false Q3)
    first
     | (exfalso; first | contradiction | contradiction | (cases Q3; done))
     | skip
       refine cd_seq ?_
       refine cd_region ?_
       refine st_val (ro_assign (v := .bool _) rfl) ?_
       refine st_val (ro_assign (v := .int _ _) rfl) ?_
       refine st_nil ?_
       refine nx_then ?_
       refine cd_ret ?_
       refine rt_then ?_
       refine res2 (v := .bool _) (v' := .int _ _) rfl rfl rfl ?_
       exact ⟨rfl, ((From.rfl_.next E3).next E11)⟩
  · (try first | replace Q3 := bn_t Q3 | replace Q3 := bn_f Q3)
    (try first | replace Q3 := bx_t Q3 | replace Q3 := bx_f Q3 | replace Q3 := be_t Q3 | replace Q3 := be_f Q3 | replace Q3 := of_decide_eq_true Q3 | replace Q3 := of_decide_eq_false Q3)
    first
     | (exfalso; first | contradiction | contradiction | (cases Q3; done))
     | skip
       refine cd_skip ?_
       refine nx_then ?_
       refine cd_seq ?_
       refine cd_region ?_
       refine st_val (ro_loadA (cs := [_, _, _]) EntLaw9_g25 EntLaw9_z25 rfl (by first | (first | exact (hk3.from_ (From.rfl_.next E11)).whole | exact (hk3.from_ (From.rfl_.next E11)).rd 0 rfl | exact (hk3.from_ (From.rfl_.next E11)).rd 1 rfl | exact (hk3.from_ (From.rfl_.next E11)).rd 2 rfl))) ?_
       refine st_call EntLaw9_k42 (Rt.of (lastOf_any B T _ xs _ (h.from_ ((From.rfl_.next E3).next E11)))) ?_
       rintro v15 w4 ⟨rfl, E15⟩
       refine st_val (ro_move (v := .tuple _) rfl) ?_
       refine st_val (ro_extract rfl rfl) ?_
       refine st_val (ro_extract rfl rfl) ?_
       refine st_val (ro_assign (v := .int _ _) rfl) ?_
       refine st_val (ro_assign (v := .int _ _) rfl) ?_
       refine st_nil ?_
       refine nx_then ?_
       refine cd_seq ?_
       refine cd_region ?_
       refine st_val (ro_move (v := .int _ _) rfl) ?_
       refine st_val (ro_move (v := .int _ _) rfl) ?_
       refine st_val (ro_gtr rfl rfl) ?_
       refine st_val (ro_move (v := .bool _) rfl) ?_
       refine st_split (t := 21) rfl (fun Q5 => ?_) (fun Q5 => ?_)
       · (try first | replace Q5 := bn_t Q5 | replace Q5 := bn_f Q5)
         (try first | replace Q5 := bx_t Q5 | replace Q5 := bx_f Q5 | replace Q5 := be_t Q5 | replace Q5 := be_f Q5 | replace Q5 := of_decide_eq_true Q5 | replace Q5 := of_decide_eq_false Q5)
         first
          | (exfalso; first | contradiction | contradiction | (cases Q5; done))
          | skip
            refine st_gno rfl rfl ?_
            refine st_gno rfl rfl ?_
            refine st_gno rfl rfl ?_
            refine st_gno rfl rfl ?_
            refine st_gund rfl ?_
            refine st_gund rfl ?_
            refine st_gund rfl ?_
            refine st_gno rfl rfl ?_
            refine st_val (ro_pickT (v := .bool _) rfl rfl) ?_
            refine st_val (ro_assign (v := .bool _) rfl) ?_
            refine st_val (ro_assign (v := .int _ _) rfl) ?_
            refine st_nil ?_
            refine nx_then ?_
            refine cd_ret ?_
            refine res2 (v := .bool _) (v' := .int _ _) rfl rfl rfl ?_
            exact ⟨rfl, (((From.rfl_.next E3).next E11).next E15)⟩
       · (try first | replace Q5 := bn_t Q5 | replace Q5 := bn_f Q5)
         (try first | replace Q5 := bx_t Q5 | replace Q5 := bx_f Q5 | replace Q5 := be_t Q5 | replace Q5 := be_f Q5 | replace Q5 := of_decide_eq_true Q5 | replace Q5 := of_decide_eq_false Q5)
         first
          | (exfalso; first | contradiction | contradiction | (cases Q5; done))
          | skip
            refine st_unguard rfl ?_
            refine st_val (ro_move (v := .int _ _) rfl) ?_
            refine st_unguard rfl ?_
            refine st_val (ro_move (v := .int _ _) rfl) ?_
            refine st_unguard rfl ?_
            refine st_val (ro_eql rfl rfl) ?_
            refine st_unguard rfl ?_
            refine st_val (ro_move (v := .bool _) rfl) ?_
            refine st_split (t := 25) rfl (fun Q6 => ?_) (fun Q6 => ?_)
            · (try first | replace Q6 := bn_t Q6 | replace Q6 := bn_f Q6)
              (try first | replace Q6 := bx_t Q6 | replace Q6 := bx_f Q6 | replace Q6 := be_t Q6 | replace Q6 := be_f Q6 | replace Q6 := of_decide_eq_true Q6 | replace Q6 := of_decide_eq_false Q6)
              first
               | (exfalso; first | contradiction | contradiction | (cases Q6; done))
               | skip
                 refine st_unguard rfl ?_
                 refine st_val (ro_move (v := .int _ _) rfl) ?_
                 refine st_unguard rfl ?_
                 refine st_val (ro_move (v := .int _ _) rfl) ?_
                 refine st_unguard rfl ?_
                 refine st_val (ro_geq rfl rfl) ?_
                 refine st_unguard rfl ?_
                 refine st_val (ro_pickT (v := .bool _) rfl rfl) ?_
                 refine st_val (ro_pickF (v := .bool _) rfl rfl) ?_
                 refine st_val (ro_assign (v := .bool _) rfl) ?_
                 refine st_val (ro_assign (v := .int _ _) rfl) ?_
                 refine st_nil ?_
                 refine nx_then ?_
                 refine cd_ret ?_
                 refine res2 (v := .bool _) (v' := .int _ _) rfl rfl rfl ?_
                 exact ⟨rfl, (((From.rfl_.next E3).next E11).next E15)⟩
            · (try first | replace Q6 := bn_t Q6 | replace Q6 := bn_f Q6)
              (try first | replace Q6 := bx_t Q6 | replace Q6 := bx_f Q6 | replace Q6 := be_t Q6 | replace Q6 := be_f Q6 | replace Q6 := of_decide_eq_true Q6 | replace Q6 := of_decide_eq_false Q6)
              first
               | (exfalso; first | contradiction | contradiction | (cases Q6; done))
               | skip
                 refine st_gno rfl rfl ?_
                 refine st_gno rfl rfl ?_
                 refine st_gno rfl rfl ?_
                 refine st_unguard rfl ?_
                 refine st_val (ro_pickF (v := .bool _) rfl rfl) ?_
                 refine st_val (ro_pickF (v := .bool _) rfl rfl) ?_
                 refine st_val (ro_assign (v := .bool _) rfl) ?_
                 refine st_val (ro_assign (v := .int _ _) rfl) ?_
                 refine st_nil ?_
                 refine nx_then ?_
                 refine cd_ret ?_
                 refine res2 (v := .bool _) (v' := .int _ _) rfl rfl rfl ?_
                 exact ⟨rfl, (((From.rfl_.next E3).next E11).next E15)⟩
theorem newer_rt3 (B T i t : Int) (A : Option Addr) (c : Nat) (xs : List Ent) (w : World) (h : Ents w (.slice A xs.length c) xs) :
    Rt Try.prog 27 [.agg #[.int .i64 B, .int .i64 T, .slice A xs.length c], .int .i64 i, .int .i64 t] w fun v w' => v = .tuple #[.bool (nB B T xs i t), .int .i64 (chk B T xs)] ∧ From w w' := by
  by_cases hm : mayLog B T xs = true
  · exact Rt.mono (newer_rt B T i t A c xs w h hm) fun v w' h => ⟨by rw [h.1]; unfold nB chk; rw [if_pos hm, if_pos hm], h.2⟩
  · exact Rt.mono (newer_no B T i t A c xs w h hm) fun v w' h => ⟨by rw [h.1]; unfold nB chk; rw [if_neg hm, if_neg hm], h.2⟩
theorem Blk.pre3' {w : World} {g : Nat} {t : TypeId} {a b c : Value} {r : List Value} (h : Blk w g t (a :: b :: c :: r).toArray) : w.rangeAt g 0 [a, b, c] := range3 (h.rd 0 rfl) (h.rd 1 rfl) (h.rd 2 rfl)
set_option maxRecDepth 100000 in
set_option maxHeartbeats 4000000 in
theorem exact_law (A : Option Addr) (n cap : Nat) (w : World) (hn : n ≤ 9223372036854775807) (hE : Asks w A n) :
    Rt Try.prog 3 [.slice A n cap] w (fun v w' => v = .bool true ∧ From w w') := by
  refine enter (n := 328) Try.func3 rfl rfl rfl ?_
  refine cd_seq ?_
  refine cd_region ?_
  refine st_val (ro_assign (v := .bool _) rfl) ?_
  refine st_nil ?_
  refine nx_then ?_
  refine cd_seq ?_
  refine cd_seq ?_
  refine cd_region ?_
  refine st_val (ro_assign (v := .int _ _) rfl) ?_
  refine st_nil ?_
  refine nx_then ?_
  refine cd_block ?_
  refine cd_loop (G := Nat) [2, 4, 5, 6, 7, 8, 9, 10, 11, 12, 13, 14, 15, 16, 17, 18, 19, 20, 21, 22, 23, 24, 25, 26, 27, 28, 29, 30, 31, 32, 33, 34, 35, 36, 37, 38, 39, 40, 41, 42, 43, 44, 45, 46, 47, 48, 49, 50, 51, 52, 53, 54, 55, 56, 57, 58, 59, 60, 61, 62, 63, 64, 65, 66, 67, 68, 69, 70, 71, 72, 73, 74, 75, 76, 77, 78, 79, 80, 81, 82, 83, 84, 85, 86, 87, 88, 89, 90, 91, 92, 93, 94, 95, 96, 97, 98, 99, 100, 101, 102, 103, 104, 105, 106, 107, 108, 109, 110, 111, 112, 113, 114, 115, 116, 117, 118, 119, 120, 121, 122, 123, 124, 125, 126, 127, 128, 129, 130, 131, 132, 133, 134, 135, 136, 137, 138, 139, 140, 141, 142, 143, 144, 145, 146, 147, 148, 149, 150, 151, 152, 153, 154, 155, 156, 157, 158, 159, 160, 161, 162, 163, 164, 165, 166, 167, 168, 169, 170, 171, 172, 173, 174, 175, 176, 177, 178, 179, 180, 181, 182, 183, 184, 185, 186, 187, 188, 189, 190, 191, 192, 193, 194, 195, 196, 197, 198, 199, 200, 201, 202, 203, 204, 205, 206, 207, 208, 209, 210, 211, 212, 213, 214, 215, 216, 217, 218, 219, 220, 221, 222, 223, 224, 225, 226, 227, 228, 229, 230, 231, 232, 233, 234, 235, 236, 237, 238, 239, 240, 241, 242, 243, 244, 245, 246, 247, 248, 249, 250, 251, 252, 253, 254, 255, 256, 257, 258, 259, 260, 261, 262, 263, 264, 265, 266, 267, 268, 269, 270, 271, 272, 273, 274, 275, 276, 277, 278, 279, 280, 281, 282, 283, 284, 285, 286, 287, 288, 289, 290, 291, 292, 293, 294, 295, 296, 297, 298, 299, 300, 301, 302, 303, 304, 305, 306, 307, 308, 309, 310, 311, 312, 313, 314, 315, 316, 317, 318, 319, 320, 321, 322, 323, 324, 325, 326] (fun k => [(3, .int .i64 (k : Nat))]) (fun k w' => k ≤ n ∧ From w w') (fun k => n - k) (0) ⟨rfl, trivial⟩ ?_ ?_
  · exact ⟨Nat.zero_le _, From.rfl_⟩
  rintro k ρ1 w1 ⟨hk, hB⟩
  refine cd_seq ?_
  refine cd_seq ?_
  refine cd_region ?_
  refine st_val (ro_move (v := .int _ _) rfl) ?_
  refine st_val (ro_move (v := .slice _ _ _) rfl) ?_
  refine st_val (ro_len EntLaw9_l22 rfl) ?_
  refine st_val (ro_lss rfl rfl) ?_
  refine st_val (ro_move (v := .bool _) rfl) ?_
  refine st_split (t := 40) rfl (fun Q2 => ?_) (fun Q2 => ?_)
  · (try first | replace Q2 := bn_t Q2 | replace Q2 := bn_f Q2)
    (try first | replace Q2 := bx_t Q2 | replace Q2 := bx_f Q2 | replace Q2 := be_t Q2 | replace Q2 := be_f Q2 | replace Q2 := of_decide_eq_true Q2 | replace Q2 := of_decide_eq_false Q2)
    first
     | (exfalso; first | omega | contradiction | (cases Q2; done))
     | skip
       refine st_unguard rfl ?_
       refine st_val (ro_move (v := .int _ _) rfl) ?_
       refine st_unguard rfl ?_
       refine st_val (ro_lss rfl rfl) ?_
       refine st_val (ro_pickT (v := .bool _) rfl rfl) ?_
       refine st_nil ?_
       refine nx_then ?_
       refine cd_cond rfl (fun Q3 => ?_) (fun Q3 => ?_)
       · (try first | replace Q3 := bn_t Q3 | replace Q3 := bn_f Q3)
         (try first | replace Q3 := bx_t Q3 | replace Q3 := bx_f Q3 | replace Q3 := be_t Q3 | replace Q3 := be_f Q3 | replace Q3 := of_decide_eq_true Q3 | replace Q3 := of_decide_eq_false Q3)
         obtain ⟨b, o, rfl, hbl, hc⟩ := hE (by omega)
         obtain ⟨B, T, I, M, N, V, E, xs, es, hat⟩ := hc k (by omega)
         obtain ⟨A1, c1, rfl, hh1, hh2, hh3, -⟩ := id hat.log
         obtain ⟨A2, c2, rfl, -⟩ := id hat.ent
         have hN0 := hat.n0
         have hI0 := hat.i0
         first
          | (exfalso; first | omega | contradiction | (cases Q3; done))
          | skip
            refine cd_skip ?_
            refine nx_then ?_
            refine cd_seq ?_
            refine cd_block ?_
            refine cd_seq ?_
            refine cd_region ?_
            refine st_val (ro_move (v := .slice _ _ _) rfl) ?_
            refine st_val (ro_move (v := .int _ _) rfl) ?_
            refine st_val (ro_indexAddrN EntLaw9_e22 rfl rfl (by omega)) ?_
            refine st_val (ro_loadA (cs := [_, _, _, _, _, _, _]) EntLaw9_g27 EntLaw9_z27 rfl (by exact rangeF hB hat.all)) ?_
            refine st_alloc EntLaw9_o27 ?_
            intro b4 w4 E4 hb4 hk4
            have hg4 : w.heap.size ≤ b4 := by rw [hb4]; exact (hB).size
            refine st_putW (vs := [_, _, _, _, _, _, _]) EntLaw9_z27 rfl rfl (by simp [Value.oneCell']) (hk4) rfl ?_
            intro w5 O4 P4
            refine st_nil ?_
            refine nx_then ?_
            refine cd_cut (G := Unit) [2, 50, 51, 52, 53, 54, 55, 56, 57, 58, 59, 60, 61, 62] (fun _ => []) (fun _ w' => xs.length ≤ 600 ∧ es.length ≤ 600 ∧ Blk w' b4 27 #[.int .i64 B, .int .i64 T, .slice A1 xs.length c1, .int .i64 I, .int .i64 M, .slice A2 es.length c2, .int .i64 N] ∧ From w w') ?_ ?_
            · refine cd_seq ?_
              refine cd_region ?_
              refine st_val (ro_loadA (cs := [_, _, _, _, _, _, _]) EntLaw9_g27 EntLaw9_z27 rfl (by first | (first | exact (hP4.from_ ((hB.next E4).only O4 (hg4))).whole | exact (hP4.from_ ((hB.next E4).only O4 (hg4))).rd 0 rfl | exact (hP4.from_ ((hB.next E4).only O4 (hg4))).rd 1 rfl | exact (hP4.from_ ((hB.next E4).only O4 (hg4))).rd 2 rfl | exact (hP4.from_ ((hB.next E4).only O4 (hg4))).rd 3 rfl | exact (hP4.from_ ((hB.next E4).only O4 (hg4))).rd 4 rfl | exact (hP4.from_ ((hB.next E4).only O4 (hg4))).rd 5 rfl | exact (hP4.from_ ((hB.next E4).only O4 (hg4))).rd 6 rfl | exact (hP4.from_ ((hB.next E4).only O4 (hg4))).pre3 | exact (hP5.from_ ((hB.next E4).only O4 (hg4))).whole | exact (hP5.from_ ((hB.next E4).only O4 (hg4))).rd 0 rfl | exact (hP5.from_ ((hB.next E4).only O4 (hg4))).rd 1 rfl | exact (hP5.from_ ((hB.next E4).only O4 (hg4))).rd 2 rfl | exact (P4.from_ From.rfl_).whole | exact (P4.from_ From.rfl_).rd 0 rfl | exact (P4.from_ From.rfl_).rd 1 rfl | exact (P4.from_ From.rfl_).rd 2 rfl | exact (P4.from_ From.rfl_).rd 3 rfl | exact (P4.from_ From.rfl_).rd 4 rfl | exact (P4.from_ From.rfl_).rd 5 rfl | exact (P4.from_ From.rfl_).rd 6 rfl | exact (P4.from_ From.rfl_).pre3 | exact (P7.from_ From.rfl_).whole | exact (P7.from_ From.rfl_).rd 0 rfl | exact (P7.from_ From.rfl_).rd 1 rfl | exact (P7.from_ From.rfl_).rd 2 rfl))) ?_
              refine st_call EntLaw9_k12 (heavy_rt B T I M N A1 A2 _ c1 _ c2 xs es _ (hat.log.from_ ((hB.next E4).only O4 (hg4))) (hat.ent.from_ ((hB.next E4).only O4 (hg4))) hat.lok hat.llen hat.eok hat.elen) ?_
              rintro v51 w6 ⟨b51, rfl, hhv51, E51⟩
              refine st_val (ro_move (v := .bool _) rfl) ?_
              refine st_split (t := 52) rfl (fun Q7 => ?_) (fun Q7 => ?_)
              · (try first | replace Q7 := bn_t Q7 | replace Q7 := bn_f Q7)
                (try first | replace Q7 := bx_t Q7 | replace Q7 := bx_f Q7 | replace Q7 := be_t Q7 | replace Q7 := be_f Q7 | replace Q7 := of_decide_eq_true Q7 | replace Q7 := of_decide_eq_false Q7)
                first
                 | (exfalso; first | omega | contradiction | (cases Q7; done))
                 | skip
                   refine st_gno rfl rfl ?_
                   refine st_gno rfl rfl ?_
                   refine st_gno rfl rfl ?_
                   refine st_gund rfl ?_
                   refine st_gund rfl ?_
                   refine st_gund rfl ?_
                   refine st_gund rfl ?_
                   refine st_gund rfl ?_
                   refine st_gno rfl rfl ?_
                   refine st_val (ro_pickT (v := .bool _) rfl rfl) ?_
                   refine st_nil ?_
                   refine nx_then ?_
                   refine cd_condT rfl ?_
                   refine cd_seq ?_
                   refine cd_region ?_
                   refine st_val (ro_assign (v := .bool _) rfl) ?_
                   refine st_nil ?_
                   refine nx_then ?_
                   refine cd_ret ?_
                   refine rt_then ?_
                   refine rt_block ?_
                   refine rt_then ?_
                   refine rt_then ?_
                   refine rt_block ?_
                   refine rt_then ?_
                   refine res1 (v := .bool _) rfl rfl ?_
                   exact ⟨rfl, (((hB.next E4).only O4 (hg4)).next E51)⟩
              · (try first | replace Q7 := bn_t Q7 | replace Q7 := bn_f Q7)
                (try first | replace Q7 := bx_t Q7 | replace Q7 := bx_f Q7 | replace Q7 := be_t Q7 | replace Q7 := be_f Q7 | replace Q7 := of_decide_eq_true Q7 | replace Q7 := of_decide_eq_false Q7)
                obtain ⟨hx6, he6⟩ := hhv51 Q7
                first
                 | (exfalso; first | omega | contradiction | (cases Q7; done))
                 | skip
                   refine st_unguard rfl ?_
                   refine st_val (ro_move (v := .int _ _) rfl) ?_
                   refine st_unguard rfl ?_
                   refine st_val (ro_gtr rfl rfl) ?_
                   refine st_unguard rfl ?_
                   refine st_val (ro_move (v := .bool _) rfl) ?_
                   refine st_split (t := 55) rfl (fun Q8 => ?_) (fun Q8 => ?_)
                   · (try first | replace Q8 := bn_t Q8 | replace Q8 := bn_f Q8)
                     (try first | replace Q8 := bx_t Q8 | replace Q8 := bx_f Q8 | replace Q8 := be_t Q8 | replace Q8 := be_f Q8 | replace Q8 := of_decide_eq_true Q8 | replace Q8 := of_decide_eq_false Q8)
                     first
                      | (exfalso; first | omega | contradiction | (cases Q8; done))
                      | skip
                        refine st_unguard rfl ?_
                        refine st_val (ro_fieldAddr EntLaw9_f27_0 rfl) ?_
                        refine st_unguard rfl ?_
                        refine st_val (ro_fieldAddr EntLaw9_f25_2 rfl) ?_
                        refine st_unguard rfl ?_
                        refine st_val (ro_load EntLaw9_g23 rfl (by first | (first | exact (hP4.from_ (((hB.next E4).only O4 (hg4)).next E51)).whole | exact (hP4.from_ (((hB.next E4).only O4 (hg4)).next E51)).rd 0 rfl | exact (hP4.from_ (((hB.next E4).only O4 (hg4)).next E51)).rd 1 rfl | exact (hP4.from_ (((hB.next E4).only O4 (hg4)).next E51)).rd 2 rfl | exact (hP4.from_ (((hB.next E4).only O4 (hg4)).next E51)).rd 3 rfl | exact (hP4.from_ (((hB.next E4).only O4 (hg4)).next E51)).rd 4 rfl | exact (hP4.from_ (((hB.next E4).only O4 (hg4)).next E51)).rd 5 rfl | exact (hP4.from_ (((hB.next E4).only O4 (hg4)).next E51)).rd 6 rfl | exact (hP4.from_ (((hB.next E4).only O4 (hg4)).next E51)).pre3 | exact (hP5.from_ (((hB.next E4).only O4 (hg4)).next E51)).whole | exact (hP5.from_ (((hB.next E4).only O4 (hg4)).next E51)).rd 0 rfl | exact (hP5.from_ (((hB.next E4).only O4 (hg4)).next E51)).rd 1 rfl | exact (hP5.from_ (((hB.next E4).only O4 (hg4)).next E51)).rd 2 rfl | exact (P4.from_ (From.rfl_.next E51)).whole | exact (P4.from_ (From.rfl_.next E51)).rd 0 rfl | exact (P4.from_ (From.rfl_.next E51)).rd 1 rfl | exact (P4.from_ (From.rfl_.next E51)).rd 2 rfl | exact (P4.from_ (From.rfl_.next E51)).rd 3 rfl | exact (P4.from_ (From.rfl_.next E51)).rd 4 rfl | exact (P4.from_ (From.rfl_.next E51)).rd 5 rfl | exact (P4.from_ (From.rfl_.next E51)).rd 6 rfl | exact (P4.from_ (From.rfl_.next E51)).pre3 | exact (P7.from_ (From.rfl_.next E51)).whole | exact (P7.from_ (From.rfl_.next E51)).rd 0 rfl | exact (P7.from_ (From.rfl_.next E51)).rd 1 rfl | exact (P7.from_ (From.rfl_.next E51)).rd 2 rfl))) ?_
                        refine st_unguard rfl ?_
                        refine st_val (ro_len EntLaw9_l23 rfl) ?_
                        refine st_unguard rfl ?_
                        refine st_val (ro_gtr rfl rfl) ?_
                        refine st_unguard rfl ?_
                        refine st_val (ro_pickT (v := .bool _) rfl rfl) ?_
                        refine st_val (ro_pickF (v := .bool _) rfl rfl) ?_
                        refine st_nil ?_
                        refine nx_then ?_
                        refine cd_cond rfl (fun Q9 => ?_) (fun Q9 => ?_)
                        · (try first | replace Q9 := bn_t Q9 | replace Q9 := bn_f Q9)
                          (try first | replace Q9 := bx_t Q9 | replace Q9 := bx_f Q9 | replace Q9 := be_t Q9 | replace Q9 := be_f Q9 | replace Q9 := of_decide_eq_true Q9 | replace Q9 := of_decide_eq_false Q9)
                          first
                           | (exfalso; first | omega | contradiction | (cases Q9; done))
                           | skip
                             refine cd_seq ?_
                             refine cd_region ?_
                             refine st_val (ro_assign (v := .bool _) rfl) ?_
                             refine st_nil ?_
                             refine nx_then ?_
                             refine cd_ret ?_
                             refine rt_then ?_
                             refine rt_block ?_
                             refine rt_then ?_
                             refine rt_then ?_
                             refine rt_block ?_
                             refine rt_then ?_
                             refine res1 (v := .bool _) rfl rfl ?_
                             exact ⟨rfl, (((hB.next E4).only O4 (hg4)).next E51)⟩
                        · (try first | replace Q9 := bn_t Q9 | replace Q9 := bn_f Q9)
                          (try first | replace Q9 := bx_t Q9 | replace Q9 := bx_f Q9 | replace Q9 := be_t Q9 | replace Q9 := be_f Q9 | replace Q9 := of_decide_eq_true Q9 | replace Q9 := of_decide_eq_false Q9)
                          first
                           | (exfalso; first | omega | contradiction | (cases Q9; done))
                           | skip
                             refine cd_skip ?_
                             refine nx_cut (()) trivial (by (iterate 15 refine agr_cons rfl ?_); exact agr_rfl) ?_
                             exact ⟨hx6, he6, P4.from_ (From.rfl_.next E51), (((hB.next E4).only O4 (hg4)).next E51)⟩
                   · (try first | replace Q8 := bn_t Q8 | replace Q8 := bn_f Q8)
                     (try first | replace Q8 := bx_t Q8 | replace Q8 := bx_f Q8 | replace Q8 := be_t Q8 | replace Q8 := be_f Q8 | replace Q8 := of_decide_eq_true Q8 | replace Q8 := of_decide_eq_false Q8)
                     first
                      | (exfalso; first | omega | contradiction | (cases Q8; done))
                      | skip
                        refine st_gno rfl rfl ?_
                        refine st_gno rfl rfl ?_
                        refine st_gno rfl rfl ?_
                        refine st_gno rfl rfl ?_
                        refine st_gno rfl rfl ?_
                        refine st_unguard rfl ?_
                        refine st_val (ro_pickF (v := .bool _) rfl rfl) ?_
                        refine st_val (ro_pickF (v := .bool _) rfl rfl) ?_
                        refine st_nil ?_
                        refine nx_then ?_
                        refine cd_condF rfl ?_
                        refine cd_skip ?_
                        refine nx_cut (()) trivial (by (iterate 15 refine agr_cons rfl ?_); exact agr_rfl) ?_
                        exact ⟨hx6, he6, P4.from_ (From.rfl_.next E51), (((hB.next E4).only O4 (hg4)).next E51)⟩
            · rintro ⟨⟩ ρ10 w10 ⟨hx6, he6, P4, hB⟩
              refine cd_seq ?_
              refine cd_region ?_
              refine st_val (ro_fieldAddr EntLaw9_f27_0 rfl) ?_
              refine st_val (ro_loadA (cs := [_, _, _]) EntLaw9_g25 EntLaw9_z25 rfl (by first | (first | exact (hP4.from_ hB).whole | exact (hP4.from_ hB).rd 0 rfl | exact (hP4.from_ hB).rd 1 rfl | exact (hP4.from_ hB).rd 2 rfl | exact (hP4.from_ hB).rd 3 rfl | exact (hP4.from_ hB).rd 4 rfl | exact (hP4.from_ hB).rd 5 rfl | exact (hP4.from_ hB).rd 6 rfl | exact (hP4.from_ hB).pre3 | exact (hP5.from_ hB).whole | exact (hP5.from_ hB).rd 0 rfl | exact (hP5.from_ hB).rd 1 rfl | exact (hP5.from_ hB).rd 2 rfl | exact (P4.from_ From.rfl_).whole | exact (P4.from_ From.rfl_).rd 0 rfl | exact (P4.from_ From.rfl_).rd 1 rfl | exact (P4.from_ From.rfl_).rd 2 rfl | exact (P4.from_ From.rfl_).rd 3 rfl | exact (P4.from_ From.rfl_).rd 4 rfl | exact (P4.from_ From.rfl_).rd 5 rfl | exact (P4.from_ From.rfl_).rd 6 rfl | exact (P4.from_ From.rfl_).pre3 | exact (P7.from_ From.rfl_).whole | exact (P7.from_ From.rfl_).rd 0 rfl | exact (P7.from_ From.rfl_).rd 1 rfl | exact (P7.from_ From.rfl_).rd 2 rfl))) ?_
              refine st_call EntLaw9_k13 (copyLog_rt B T A1 _ c1 xs _ (hat.log.from_ hB) (by omega)) ?_
              rintro v65 w11 ⟨A5, c5, rfl, ho5, hX5, E65⟩
              refine st_alloc EntLaw9_o25 ?_
              intro b5 w12 E5 hb5 hk5
              have hg5 : w.heap.size ≤ b5 := by rw [hb5]; exact ((hB.next E65)).size
              refine st_putW (vs := [_, _, _]) EntLaw9_z25 rfl rfl (by simp [Value.oneCell']) (hk5) rfl ?_
              intro w13 O7 P7
              have F7 := ((From.rfl_.next E65).next E5).only O7 (by have := E65.size; omega)
              replace P4 := P4.from_ F7
              replace hX5 := hX5.from_ ((From.rfl_.next E5).only O7 (by omega))
              refine st_nil ?_
              refine nx_then ?_
              refine cd_seq ?_
              refine cd_region ?_
              refine st_val (ro_fieldAddr EntLaw9_f27_3 rfl) ?_
              refine st_val (ro_load EntLaw9_g23 rfl (by first | (first | exact (hP4.from_ (((hB.next E65).next E5).only O7 (hg5))).whole | exact (hP4.from_ (((hB.next E65).next E5).only O7 (hg5))).rd 0 rfl | exact (hP4.from_ (((hB.next E65).next E5).only O7 (hg5))).rd 1 rfl | exact (hP4.from_ (((hB.next E65).next E5).only O7 (hg5))).rd 2 rfl | exact (hP4.from_ (((hB.next E65).next E5).only O7 (hg5))).rd 3 rfl | exact (hP4.from_ (((hB.next E65).next E5).only O7 (hg5))).rd 4 rfl | exact (hP4.from_ (((hB.next E65).next E5).only O7 (hg5))).rd 5 rfl | exact (hP4.from_ (((hB.next E65).next E5).only O7 (hg5))).rd 6 rfl | exact (hP4.from_ (((hB.next E65).next E5).only O7 (hg5))).pre3 | exact (hP5.from_ (((hB.next E65).next E5).only O7 (hg5))).whole | exact (hP5.from_ (((hB.next E65).next E5).only O7 (hg5))).rd 0 rfl | exact (hP5.from_ (((hB.next E65).next E5).only O7 (hg5))).rd 1 rfl | exact (hP5.from_ (((hB.next E65).next E5).only O7 (hg5))).rd 2 rfl | exact (P4.from_ From.rfl_).whole | exact (P4.from_ From.rfl_).rd 0 rfl | exact (P4.from_ From.rfl_).rd 1 rfl | exact (P4.from_ From.rfl_).rd 2 rfl | exact (P4.from_ From.rfl_).rd 3 rfl | exact (P4.from_ From.rfl_).rd 4 rfl | exact (P4.from_ From.rfl_).rd 5 rfl | exact (P4.from_ From.rfl_).rd 6 rfl | exact (P4.from_ From.rfl_).pre3 | exact (P7.from_ From.rfl_).whole | exact (P7.from_ From.rfl_).rd 0 rfl | exact (P7.from_ From.rfl_).rd 1 rfl | exact (P7.from_ From.rfl_).rd 2 rfl))) ?_
              refine st_call EntLaw9_k14 (copyEnts_rt A2 _ c2 es _ (hat.ent.from_ (((hB.next E65).next E5).only O7 (hg5))) (by omega)) ?_
              rintro v68 w14 ⟨A6, c6, rfl, ho6, hS6, E68⟩
              refine st_val (ro_assign (v := .slice _ _ _) rfl) ?_
              refine st_nil ?_
              refine nx_then ?_
              refine cd_seq ?_
              refine cd_region ?_
              refine st_val (ro_fieldAddr EntLaw9_f27_0 rfl) ?_
              refine st_val (ro_loadA (cs := [_, _, _]) EntLaw9_g25 EntLaw9_z25 rfl (by first | (first | exact (hP4.from_ ((((hB.next E65).next E5).only O7 (hg5)).next E68)).whole | exact (hP4.from_ ((((hB.next E65).next E5).only O7 (hg5)).next E68)).rd 0 rfl | exact (hP4.from_ ((((hB.next E65).next E5).only O7 (hg5)).next E68)).rd 1 rfl | exact (hP4.from_ ((((hB.next E65).next E5).only O7 (hg5)).next E68)).rd 2 rfl | exact (hP4.from_ ((((hB.next E65).next E5).only O7 (hg5)).next E68)).rd 3 rfl | exact (hP4.from_ ((((hB.next E65).next E5).only O7 (hg5)).next E68)).rd 4 rfl | exact (hP4.from_ ((((hB.next E65).next E5).only O7 (hg5)).next E68)).rd 5 rfl | exact (hP4.from_ ((((hB.next E65).next E5).only O7 (hg5)).next E68)).rd 6 rfl | exact (hP4.from_ ((((hB.next E65).next E5).only O7 (hg5)).next E68)).pre3 | exact (hP5.from_ ((((hB.next E65).next E5).only O7 (hg5)).next E68)).whole | exact (hP5.from_ ((((hB.next E65).next E5).only O7 (hg5)).next E68)).rd 0 rfl | exact (hP5.from_ ((((hB.next E65).next E5).only O7 (hg5)).next E68)).rd 1 rfl | exact (hP5.from_ ((((hB.next E65).next E5).only O7 (hg5)).next E68)).rd 2 rfl | exact (P4.from_ (From.rfl_.next E68)).whole | exact (P4.from_ (From.rfl_.next E68)).rd 0 rfl | exact (P4.from_ (From.rfl_.next E68)).rd 1 rfl | exact (P4.from_ (From.rfl_.next E68)).rd 2 rfl | exact (P4.from_ (From.rfl_.next E68)).rd 3 rfl | exact (P4.from_ (From.rfl_.next E68)).rd 4 rfl | exact (P4.from_ (From.rfl_.next E68)).rd 5 rfl | exact (P4.from_ (From.rfl_.next E68)).rd 6 rfl | exact (P4.from_ (From.rfl_.next E68)).pre3 | exact (P7.from_ (From.rfl_.next E68)).whole | exact (P7.from_ (From.rfl_.next E68)).rd 0 rfl | exact (P7.from_ (From.rfl_.next E68)).rd 1 rfl | exact (P7.from_ (From.rfl_.next E68)).rd 2 rfl))) ?_
              refine st_call EntLaw9_k15 (Rt.of (may_any B T _ xs _ (hat.log.from_ ((((hB.next E65).next E5).only O7 (hg5)).next E68)))) ?_
              rintro v71 w15 ⟨rfl, E71⟩
              refine st_val (ro_assign (v := .bool _) rfl) ?_
              refine st_nil ?_
              refine nx_then ?_
              refine cd_cut (G := Unit) [] (fun _ => [(8, .int .i64 1), (9, .int .i64 1), (10, .int .i64 1), (11, .int .i64 1), (12, .int .i64 1), (13, .int .i64 1)]) (fun _ w' => Blk w' b4 27 #[.int .i64 B, .int .i64 T, .slice A1 xs.length c1, .int .i64 I, .int .i64 M, .slice A2 es.length c2, .int .i64 N] ∧ Blk w' b5 25 #[.int .i64 B, .int .i64 T, .slice A5 xs.length c5] ∧ Ents w' (.slice A5 xs.length c5) xs ∧ Ents w' (.slice A6 es.length c6) es ∧ From w w') ?_ ?_
              · refine cd_region ?_
                refine st_val (ro_assign (v := .int _ _) rfl) ?_
                refine st_val (ro_assign (v := .int _ _) rfl) ?_
                refine st_val (ro_assign (v := .int _ _) rfl) ?_
                refine st_val (ro_assign (v := .int _ _) rfl) ?_
                refine st_val (ro_assign (v := .int _ _) rfl) ?_
                refine st_val (ro_assign (v := .int _ _) rfl) ?_
                refine st_nil ?_
                refine nx_cut (()) ⟨(by first | rfl | (refine int_eq ?_; omega)), (by first | rfl | (refine int_eq ?_; omega)), (by first | rfl | (refine int_eq ?_; omega)), (by first | rfl | (refine int_eq ?_; omega)), (by first | rfl | (refine int_eq ?_; omega)), (by first | rfl | (refine int_eq ?_; omega)), trivial⟩ (by (iterate 6 refine agr_cons rfl ?_); exact agr_rfl) ?_
                exact ⟨P4.from_ ((From.rfl_.next E68).next E71), P7.from_ ((From.rfl_.next E68).next E71), hX5.from_ ((From.rfl_.next E68).next E71), hS6.from_ (From.rfl_.next E71), (((((hB.next E65).next E5).only O7 (hg5)).next E68).next E71)⟩
              · rintro ⟨⟩ ρ16 wa ⟨hP4, hP5, hX, hS, hB0⟩
                obtain ⟨s0, hs0⟩ : ∃ s, s = wa.heap.size := ⟨_, rfl⟩
                have hge : ∀ {k : Nat}, s0 ≤ k → wa.heap.size ≤ k := fun h => hs0 ▸ h
                refine cd_seq ?_
                refine cd_region ?_
                refine st_alloc EntLaw9_o25 ?_
                intro b14 w17 E14 hb14 hk14
                have hg14 : s0 ≤ b14 := by rw [hs0, hb14]; exact (From.rfl_).size
                have hl14 := hk14.lt
                refine st_alloc EntLaw9_o25 ?_
                intro b15 w18 E15 hb15 hk15
                have hg15 : s0 ≤ b15 := by rw [hs0, hb15]; exact ((From.rfl_.next E14)).size
                have hl15 := hk15.lt
                replace hk14 := hk14.from_ E15
                refine st_alloc EntLaw9_o25 ?_
                intro b16 w19 E16 hb16 hk16
                have hg16 : s0 ≤ b16 := by rw [hs0, hb16]; exact (((From.rfl_.next E14).next E15)).size
                have hl16 := hk16.lt
                replace hk14 := hk14.from_ E16
                replace hk15 := hk15.from_ E16
                refine st_nil ?_
                refine nx_then ?_
                refine cd_seq ?_
                refine cd_region ?_
                refine st_val (ro_assign (v := .slice _ _ _) rfl) ?_
                refine st_nil ?_
                refine nx_then ?_
                refine cd_seq ?_
                refine cd_region ?_
                refine st_val (ro_assign (v := .int _ _) rfl) ?_
                refine st_val (ro_assign (v := .int _ _) rfl) ?_
                refine st_val (ro_assign (v := .int _ _) rfl) ?_
                refine st_nil ?_
                refine nx_then ?_
                refine cd_seq ?_
                refine cd_region ?_
                refine st_val (ro_assign (v := .bool _) rfl) ?_
                refine st_nil ?_
                refine nx_then ?_
                refine cd_cut (G := Option Addr × Nat × Nat) [22, 23, 72, 73, 74, 75, 76, 77, 78, 79, 80, 81, 82, 83, 84, 85, 86, 87, 88, 89, 90, 91, 92, 93, 94, 95, 96, 97, 98, 99, 100, 101, 102, 103, 104, 105, 106, 107, 108, 109, 110, 111, 112, 113, 114, 115, 116, 117, 118, 119, 120, 121, 122, 123, 124, 125, 126, 127, 128, 129, 130, 131, 132, 133, 134, 135, 136, 137, 138, 139, 140, 141, 142, 143, 144, 145, 146, 147, 148, 149, 150, 151, 152, 153, 154, 155, 156, 157, 158, 159, 160, 161, 162, 163, 164, 165] (fun (A17, k17, c17) => [(8, .int .i64 (chk B T xs)), (9, .int .i64 (apErr B T xs es)), (10, .int .i64 (cutErr B T xs I)), (11, .int .i64 (slErr B T xs I N)), (12, .int .i64 (coErr B T xs I)), (13, .int .i64 (teE B T xs I)), (17, .slice A17 k17 c17), (18, .int .i64 (lI B T xs)), (19, .int .i64 (lT B T xs)), (20, .int .i64 (teV B T xs I)), (21, .bool (nB B T xs I M))]) (fun (A17, k17, c17) w' => Told w' b14 (b16 + 1) (apErr B T xs es) B T (xs ++ es) ∧ Told w' b15 (b16 + 1) (cutErr B T xs I) B T (xs.take (I - B).toNat) ∧ Told w' b16 (b16 + 1) (coErr B T xs I) I (termI B T xs I) (xs.drop (I - B).toNat) ∧ w'.ownsRow (b16 + 1) 63 3 (.slice A17 k17 c17) k17 (entV (if slErr B T xs I N = 0 then (xs.drop (I - B - 1).toNat).take N.toNat else [])) ∧ From wa w') ?_ ?_
                · refine cd_seq ?_
                  refine cd_region ?_
                  refine st_val (ro_move (v := .bool _) rfl) ?_
                  refine st_nil ?_
                  refine nx_then ?_
                  refine cd_cond rfl (fun Q20 => ?_) (fun Q20 => ?_)
                  · (try first | replace Q20 := bn_t Q20 | replace Q20 := bn_f Q20)
                    (try first | replace Q20 := bx_t Q20 | replace Q20 := bx_f Q20 | replace Q20 := be_t Q20 | replace Q20 := be_f Q20 | replace Q20 := of_decide_eq_true Q20 | replace Q20 := of_decide_eq_false Q20)
                    have hm : mayLog B T xs = true := Q20
                    obtain ⟨hml, hmB0, hmB1, hmx⟩ := may_last hm
                    have hck : chk B T xs = 0 := if_pos hm
                    have hlI : lI B T xs = lastI B xs := if_pos hm
                    have hlT : lT B T xs = lastT T xs := if_pos hm
                    have hnB : nB B T xs I M = newB B T xs I M := if_pos hm
                    first
                     | (exfalso; first | omega | contradiction | (cases Q20; done))
                     | skip
                       refine cd_seq ?_
                       refine cd_region ?_
                       refine st_val (ro_assign (v := .int _ _) rfl) ?_
                       refine st_nil ?_
                       refine nx_then ?_
                       refine cd_seq ?_
                       refine cd_region ?_
                       refine st_val (ro_fieldAddr EntLaw9_f27_0 rfl) ?_
                       refine st_val (ro_loadA (cs := [_, _, _]) EntLaw9_g25 EntLaw9_z25 rfl (by first | (first | exact (hP4.from_ (((From.rfl_.next E14).next E15).next E16)).whole | exact (hP4.from_ (((From.rfl_.next E14).next E15).next E16)).rd 0 rfl | exact (hP4.from_ (((From.rfl_.next E14).next E15).next E16)).rd 1 rfl | exact (hP4.from_ (((From.rfl_.next E14).next E15).next E16)).rd 2 rfl | exact (hP4.from_ (((From.rfl_.next E14).next E15).next E16)).rd 3 rfl | exact (hP4.from_ (((From.rfl_.next E14).next E15).next E16)).rd 4 rfl | exact (hP4.from_ (((From.rfl_.next E14).next E15).next E16)).rd 5 rfl | exact (hP4.from_ (((From.rfl_.next E14).next E15).next E16)).rd 6 rfl | exact (hP4.from_ (((From.rfl_.next E14).next E15).next E16)).pre3 | exact (hP5.from_ (((From.rfl_.next E14).next E15).next E16)).whole | exact (hP5.from_ (((From.rfl_.next E14).next E15).next E16)).rd 0 rfl | exact (hP5.from_ (((From.rfl_.next E14).next E15).next E16)).rd 1 rfl | exact (hP5.from_ (((From.rfl_.next E14).next E15).next E16)).rd 2 rfl | exact (P4.from_ From.rfl_).whole | exact (P4.from_ From.rfl_).rd 0 rfl | exact (P4.from_ From.rfl_).rd 1 rfl | exact (P4.from_ From.rfl_).rd 2 rfl | exact (P4.from_ From.rfl_).rd 3 rfl | exact (P4.from_ From.rfl_).rd 4 rfl | exact (P4.from_ From.rfl_).rd 5 rfl | exact (P4.from_ From.rfl_).rd 6 rfl | exact (P4.from_ From.rfl_).pre3 | exact (P7.from_ From.rfl_).whole | exact (P7.from_ From.rfl_).rd 0 rfl | exact (P7.from_ From.rfl_).rd 1 rfl | exact (P7.from_ From.rfl_).rd 2 rfl))) ?_
                       refine st_call EntLaw9_k16 (Rt.of (refLast_any B T _ xs _ (hat.log.from_ (hB0.next (((From.rfl_.next E14).next E15).next E16))))) ?_
                       rintro v76 w21 ⟨rfl, E76⟩
                       refine st_val (ro_move (v := .tuple _) rfl) ?_
                       refine st_val (ro_extract rfl rfl) ?_
                       refine st_val (ro_extract rfl rfl) ?_
                       refine st_val (ro_assign (v := .int _ _) rfl) ?_
                       refine st_val (ro_assign (v := .int _ _) rfl) ?_
                       refine st_nil ?_
                       refine nx_then ?_
                       refine cd_seq ?_
                       refine cd_region ?_
                       refine st_val (ro_fieldAddr EntLaw9_f27_0 rfl) ?_
                       refine st_val (ro_loadA (cs := [_, _, _]) EntLaw9_g25 EntLaw9_z25 rfl (by first | (first | exact (hP4.from_ ((((From.rfl_.next E14).next E15).next E16).next E76)).whole | exact (hP4.from_ ((((From.rfl_.next E14).next E15).next E16).next E76)).rd 0 rfl | exact (hP4.from_ ((((From.rfl_.next E14).next E15).next E16).next E76)).rd 1 rfl | exact (hP4.from_ ((((From.rfl_.next E14).next E15).next E16).next E76)).rd 2 rfl | exact (hP4.from_ ((((From.rfl_.next E14).next E15).next E16).next E76)).rd 3 rfl | exact (hP4.from_ ((((From.rfl_.next E14).next E15).next E16).next E76)).rd 4 rfl | exact (hP4.from_ ((((From.rfl_.next E14).next E15).next E16).next E76)).rd 5 rfl | exact (hP4.from_ ((((From.rfl_.next E14).next E15).next E16).next E76)).rd 6 rfl | exact (hP4.from_ ((((From.rfl_.next E14).next E15).next E16).next E76)).pre3 | exact (hP5.from_ ((((From.rfl_.next E14).next E15).next E16).next E76)).whole | exact (hP5.from_ ((((From.rfl_.next E14).next E15).next E16).next E76)).rd 0 rfl | exact (hP5.from_ ((((From.rfl_.next E14).next E15).next E16).next E76)).rd 1 rfl | exact (hP5.from_ ((((From.rfl_.next E14).next E15).next E16).next E76)).rd 2 rfl | exact (P4.from_ (From.rfl_.next E76)).whole | exact (P4.from_ (From.rfl_.next E76)).rd 0 rfl | exact (P4.from_ (From.rfl_.next E76)).rd 1 rfl | exact (P4.from_ (From.rfl_.next E76)).rd 2 rfl | exact (P4.from_ (From.rfl_.next E76)).rd 3 rfl | exact (P4.from_ (From.rfl_.next E76)).rd 4 rfl | exact (P4.from_ (From.rfl_.next E76)).rd 5 rfl | exact (P4.from_ (From.rfl_.next E76)).rd 6 rfl | exact (P4.from_ (From.rfl_.next E76)).pre3 | exact (P7.from_ (From.rfl_.next E76)).whole | exact (P7.from_ (From.rfl_.next E76)).rd 0 rfl | exact (P7.from_ (From.rfl_.next E76)).rd 1 rfl | exact (P7.from_ (From.rfl_.next E76)).rd 2 rfl))) ?_
                       refine st_val (ro_fieldAddr EntLaw9_f27_3 rfl) ?_
                       refine st_val (ro_load EntLaw9_g23 rfl (by first | (first | exact (hP4.from_ ((((From.rfl_.next E14).next E15).next E16).next E76)).whole | exact (hP4.from_ ((((From.rfl_.next E14).next E15).next E16).next E76)).rd 0 rfl | exact (hP4.from_ ((((From.rfl_.next E14).next E15).next E16).next E76)).rd 1 rfl | exact (hP4.from_ ((((From.rfl_.next E14).next E15).next E16).next E76)).rd 2 rfl | exact (hP4.from_ ((((From.rfl_.next E14).next E15).next E16).next E76)).rd 3 rfl | exact (hP4.from_ ((((From.rfl_.next E14).next E15).next E16).next E76)).rd 4 rfl | exact (hP4.from_ ((((From.rfl_.next E14).next E15).next E16).next E76)).rd 5 rfl | exact (hP4.from_ ((((From.rfl_.next E14).next E15).next E16).next E76)).rd 6 rfl | exact (hP4.from_ ((((From.rfl_.next E14).next E15).next E16).next E76)).pre3 | exact (hP5.from_ ((((From.rfl_.next E14).next E15).next E16).next E76)).whole | exact (hP5.from_ ((((From.rfl_.next E14).next E15).next E16).next E76)).rd 0 rfl | exact (hP5.from_ ((((From.rfl_.next E14).next E15).next E16).next E76)).rd 1 rfl | exact (hP5.from_ ((((From.rfl_.next E14).next E15).next E16).next E76)).rd 2 rfl | exact (P4.from_ (From.rfl_.next E76)).whole | exact (P4.from_ (From.rfl_.next E76)).rd 0 rfl | exact (P4.from_ (From.rfl_.next E76)).rd 1 rfl | exact (P4.from_ (From.rfl_.next E76)).rd 2 rfl | exact (P4.from_ (From.rfl_.next E76)).rd 3 rfl | exact (P4.from_ (From.rfl_.next E76)).rd 4 rfl | exact (P4.from_ (From.rfl_.next E76)).rd 5 rfl | exact (P4.from_ (From.rfl_.next E76)).rd 6 rfl | exact (P4.from_ (From.rfl_.next E76)).pre3 | exact (P7.from_ (From.rfl_.next E76)).whole | exact (P7.from_ (From.rfl_.next E76)).rd 0 rfl | exact (P7.from_ (From.rfl_.next E76)).rd 1 rfl | exact (P7.from_ (From.rfl_.next E76)).rd 2 rfl))) ?_
                       have hz84 : b16 + 1 ≤ (w21).heap.size := (hk16.from_ (From.rfl_.next E76)).lt
                       refine st_call EntLaw9_k17 (refAppend_rt B T A1 A2 _ c1 _ c2 xs es _ (hat.log.from_ (hB0.next ((((From.rfl_.next E14).next E15).next E16).next E76))) (hat.ent.from_ (hB0.next ((((From.rfl_.next E14).next E15).next E16).next E76))) hm (by omega)) ?_
                       rintro v84 w22 ⟨X84, Y84, A84, n84, c84, rfl, hu84, E84⟩
                       refine st_val (ro_move (v := .tuple _) rfl) ?_
                       refine st_val (ro_extract rfl rfl) ?_
                       refine st_val (ro_extract rfl rfl) ?_
                       refine st_putW (vs := [_, _, _]) EntLaw9_z25 rfl rfl (by simp [Value.oneCell']) (hk14.from_ ((From.rfl_.next E76).next E84)) rfl ?_
                       intro w23 O18 P18
                       replace hk15 := (hk15.from_ ((From.rfl_.next E76).next E84)).only O18 (by omega)
                       replace hk16 := (hk16.from_ ((From.rfl_.next E76).next E84)).only O18 (by omega)
                       have T14 : Told _ b14 (b16 + 1) (apErr B T xs es) B T (xs ++ es) := ⟨_, _, _, _, _, P18, (hu84.le hz84).only O18 (by omega)⟩
                       refine st_val (ro_assign (v := .int _ _) rfl) ?_
                       refine st_nil ?_
                       refine nx_then ?_
                       refine cd_cut (G := Unit) [87, 88, 89, 90, 91, 92, 93, 94, 95, 96, 97, 98, 99, 100, 101, 102, 103] (fun _ => [(10, .int .i64 (cutErr B T xs I))]) (fun _ w' => Told w' b14 (b16 + 1) (apErr B T xs es) B T (xs ++ es) ∧ Told w' b15 (b16 + 1) (cutErr B T xs I) B T (xs.take (I - B).toNat) ∧ Blk w' b16 25 #[.int .i64 0, .int .i64 0, .slice none 0 0] ∧ From wa w') ?_ ?_
                       · refine cd_seq ?_
                         refine cd_region ?_
                         refine st_val (ro_fieldAddr EntLaw9_f27_1 rfl) ?_
                         refine st_val (ro_load EntLaw9_g3 rfl (by first | (first | exact (hP4.from_ ((((((From.rfl_.next E14).next E15).next E16).next E76).next E84).only O18 (hge hg14))).whole | exact (hP4.from_ ((((((From.rfl_.next E14).next E15).next E16).next E76).next E84).only O18 (hge hg14))).rd 0 rfl | exact (hP4.from_ ((((((From.rfl_.next E14).next E15).next E16).next E76).next E84).only O18 (hge hg14))).rd 1 rfl | exact (hP4.from_ ((((((From.rfl_.next E14).next E15).next E16).next E76).next E84).only O18 (hge hg14))).rd 2 rfl | exact (hP4.from_ ((((((From.rfl_.next E14).next E15).next E16).next E76).next E84).only O18 (hge hg14))).rd 3 rfl | exact (hP4.from_ ((((((From.rfl_.next E14).next E15).next E16).next E76).next E84).only O18 (hge hg14))).rd 4 rfl | exact (hP4.from_ ((((((From.rfl_.next E14).next E15).next E16).next E76).next E84).only O18 (hge hg14))).rd 5 rfl | exact (hP4.from_ ((((((From.rfl_.next E14).next E15).next E16).next E76).next E84).only O18 (hge hg14))).rd 6 rfl | exact (hP4.from_ ((((((From.rfl_.next E14).next E15).next E16).next E76).next E84).only O18 (hge hg14))).pre3 | exact (hP5.from_ ((((((From.rfl_.next E14).next E15).next E16).next E76).next E84).only O18 (hge hg14))).whole | exact (hP5.from_ ((((((From.rfl_.next E14).next E15).next E16).next E76).next E84).only O18 (hge hg14))).rd 0 rfl | exact (hP5.from_ ((((((From.rfl_.next E14).next E15).next E16).next E76).next E84).only O18 (hge hg14))).rd 1 rfl | exact (hP5.from_ ((((((From.rfl_.next E14).next E15).next E16).next E76).next E84).only O18 (hge hg14))).rd 2 rfl | exact (P4.from_ From.rfl_).whole | exact (P4.from_ From.rfl_).rd 0 rfl | exact (P4.from_ From.rfl_).rd 1 rfl | exact (P4.from_ From.rfl_).rd 2 rfl | exact (P4.from_ From.rfl_).rd 3 rfl | exact (P4.from_ From.rfl_).rd 4 rfl | exact (P4.from_ From.rfl_).rd 5 rfl | exact (P4.from_ From.rfl_).rd 6 rfl | exact (P4.from_ From.rfl_).pre3 | exact (P7.from_ From.rfl_).whole | exact (P7.from_ From.rfl_).rd 0 rfl | exact (P7.from_ From.rfl_).rd 1 rfl | exact (P7.from_ From.rfl_).rd 2 rfl))) ?_
                         refine st_val (ro_fieldAddr EntLaw9_f27_0 rfl) ?_
                         refine st_val (ro_fieldAddr EntLaw9_f25_0 rfl) ?_
                         refine st_val (ro_load EntLaw9_g3 rfl (by first | (first | exact (hP4.from_ ((((((From.rfl_.next E14).next E15).next E16).next E76).next E84).only O18 (hge hg14))).whole | exact (hP4.from_ ((((((From.rfl_.next E14).next E15).next E16).next E76).next E84).only O18 (hge hg14))).rd 0 rfl | exact (hP4.from_ ((((((From.rfl_.next E14).next E15).next E16).next E76).next E84).only O18 (hge hg14))).rd 1 rfl | exact (hP4.from_ ((((((From.rfl_.next E14).next E15).next E16).next E76).next E84).only O18 (hge hg14))).rd 2 rfl | exact (hP4.from_ ((((((From.rfl_.next E14).next E15).next E16).next E76).next E84).only O18 (hge hg14))).rd 3 rfl | exact (hP4.from_ ((((((From.rfl_.next E14).next E15).next E16).next E76).next E84).only O18 (hge hg14))).rd 4 rfl | exact (hP4.from_ ((((((From.rfl_.next E14).next E15).next E16).next E76).next E84).only O18 (hge hg14))).rd 5 rfl | exact (hP4.from_ ((((((From.rfl_.next E14).next E15).next E16).next E76).next E84).only O18 (hge hg14))).rd 6 rfl | exact (hP4.from_ ((((((From.rfl_.next E14).next E15).next E16).next E76).next E84).only O18 (hge hg14))).pre3 | exact (hP5.from_ ((((((From.rfl_.next E14).next E15).next E16).next E76).next E84).only O18 (hge hg14))).whole | exact (hP5.from_ ((((((From.rfl_.next E14).next E15).next E16).next E76).next E84).only O18 (hge hg14))).rd 0 rfl | exact (hP5.from_ ((((((From.rfl_.next E14).next E15).next E16).next E76).next E84).only O18 (hge hg14))).rd 1 rfl | exact (hP5.from_ ((((((From.rfl_.next E14).next E15).next E16).next E76).next E84).only O18 (hge hg14))).rd 2 rfl | exact (P4.from_ From.rfl_).whole | exact (P4.from_ From.rfl_).rd 0 rfl | exact (P4.from_ From.rfl_).rd 1 rfl | exact (P4.from_ From.rfl_).rd 2 rfl | exact (P4.from_ From.rfl_).rd 3 rfl | exact (P4.from_ From.rfl_).rd 4 rfl | exact (P4.from_ From.rfl_).rd 5 rfl | exact (P4.from_ From.rfl_).rd 6 rfl | exact (P4.from_ From.rfl_).pre3 | exact (P7.from_ From.rfl_).whole | exact (P7.from_ From.rfl_).rd 0 rfl | exact (P7.from_ From.rfl_).rd 1 rfl | exact (P7.from_ From.rfl_).rd 2 rfl))) ?_
                         refine st_val (ro_geq rfl rfl) ?_
                         refine st_val (ro_move (v := .bool _) rfl) ?_
                         refine st_split (t := 93) rfl (fun Q24 => ?_) (fun Q24 => ?_)
                         · (try first | replace Q24 := bn_t Q24 | replace Q24 := bn_f Q24)
                           (try first | replace Q24 := bx_t Q24 | replace Q24 := bx_f Q24 | replace Q24 := be_t Q24 | replace Q24 := be_f Q24 | replace Q24 := of_decide_eq_true Q24 | replace Q24 := of_decide_eq_false Q24)
                           first
                            | (exfalso; first | omega | contradiction | (cases Q24; done))
                            | skip
                              refine st_unguard rfl ?_
                              refine st_val (ro_fieldAddr EntLaw9_f27_1 rfl) ?_
                              refine st_unguard rfl ?_
                              refine st_val (ro_load EntLaw9_g3 rfl (by first | (first | exact (hP4.from_ ((((((From.rfl_.next E14).next E15).next E16).next E76).next E84).only O18 (hge hg14))).whole | exact (hP4.from_ ((((((From.rfl_.next E14).next E15).next E16).next E76).next E84).only O18 (hge hg14))).rd 0 rfl | exact (hP4.from_ ((((((From.rfl_.next E14).next E15).next E16).next E76).next E84).only O18 (hge hg14))).rd 1 rfl | exact (hP4.from_ ((((((From.rfl_.next E14).next E15).next E16).next E76).next E84).only O18 (hge hg14))).rd 2 rfl | exact (hP4.from_ ((((((From.rfl_.next E14).next E15).next E16).next E76).next E84).only O18 (hge hg14))).rd 3 rfl | exact (hP4.from_ ((((((From.rfl_.next E14).next E15).next E16).next E76).next E84).only O18 (hge hg14))).rd 4 rfl | exact (hP4.from_ ((((((From.rfl_.next E14).next E15).next E16).next E76).next E84).only O18 (hge hg14))).rd 5 rfl | exact (hP4.from_ ((((((From.rfl_.next E14).next E15).next E16).next E76).next E84).only O18 (hge hg14))).rd 6 rfl | exact (hP4.from_ ((((((From.rfl_.next E14).next E15).next E16).next E76).next E84).only O18 (hge hg14))).pre3 | exact (hP5.from_ ((((((From.rfl_.next E14).next E15).next E16).next E76).next E84).only O18 (hge hg14))).whole | exact (hP5.from_ ((((((From.rfl_.next E14).next E15).next E16).next E76).next E84).only O18 (hge hg14))).rd 0 rfl | exact (hP5.from_ ((((((From.rfl_.next E14).next E15).next E16).next E76).next E84).only O18 (hge hg14))).rd 1 rfl | exact (hP5.from_ ((((((From.rfl_.next E14).next E15).next E16).next E76).next E84).only O18 (hge hg14))).rd 2 rfl | exact (P4.from_ From.rfl_).whole | exact (P4.from_ From.rfl_).rd 0 rfl | exact (P4.from_ From.rfl_).rd 1 rfl | exact (P4.from_ From.rfl_).rd 2 rfl | exact (P4.from_ From.rfl_).rd 3 rfl | exact (P4.from_ From.rfl_).rd 4 rfl | exact (P4.from_ From.rfl_).rd 5 rfl | exact (P4.from_ From.rfl_).rd 6 rfl | exact (P4.from_ From.rfl_).pre3 | exact (P7.from_ From.rfl_).whole | exact (P7.from_ From.rfl_).rd 0 rfl | exact (P7.from_ From.rfl_).rd 1 rfl | exact (P7.from_ From.rfl_).rd 2 rfl))) ?_
                              refine st_unguard rfl ?_
                              refine st_val (ro_move (v := .int _ _) rfl) ?_
                              refine st_unguard rfl ?_
                              refine st_val (ro_leq rfl rfl) ?_
                              refine st_val (ro_pickT (v := .bool _) rfl rfl) ?_
                              refine st_nil ?_
                              refine nx_then ?_
                              refine cd_cond rfl (fun Q25 => ?_) (fun Q25 => ?_)
                              · (try first | replace Q25 := bn_t Q25 | replace Q25 := bn_f Q25)
                                (try first | replace Q25 := bx_t Q25 | replace Q25 := bx_f Q25 | replace Q25 := be_t Q25 | replace Q25 := be_f Q25 | replace Q25 := of_decide_eq_true Q25 | replace Q25 := of_decide_eq_false Q25)
                                have hcu : cutErr B T xs I = 0 := by unfold cutErr; rw [if_pos hm, if_pos (by omega)]
                                first
                                 | (exfalso; first | omega | contradiction | (cases Q25; done))
                                 | skip
                                   refine cd_region ?_
                                   refine st_val (ro_fieldAddr EntLaw9_f27_0 rfl) ?_
                                   refine st_val (ro_loadA (cs := [_, _, _]) EntLaw9_g25 EntLaw9_z25 rfl (by first | (first | exact (hP4.from_ ((((((From.rfl_.next E14).next E15).next E16).next E76).next E84).only O18 (hge hg14))).whole | exact (hP4.from_ ((((((From.rfl_.next E14).next E15).next E16).next E76).next E84).only O18 (hge hg14))).rd 0 rfl | exact (hP4.from_ ((((((From.rfl_.next E14).next E15).next E16).next E76).next E84).only O18 (hge hg14))).rd 1 rfl | exact (hP4.from_ ((((((From.rfl_.next E14).next E15).next E16).next E76).next E84).only O18 (hge hg14))).rd 2 rfl | exact (hP4.from_ ((((((From.rfl_.next E14).next E15).next E16).next E76).next E84).only O18 (hge hg14))).rd 3 rfl | exact (hP4.from_ ((((((From.rfl_.next E14).next E15).next E16).next E76).next E84).only O18 (hge hg14))).rd 4 rfl | exact (hP4.from_ ((((((From.rfl_.next E14).next E15).next E16).next E76).next E84).only O18 (hge hg14))).rd 5 rfl | exact (hP4.from_ ((((((From.rfl_.next E14).next E15).next E16).next E76).next E84).only O18 (hge hg14))).rd 6 rfl | exact (hP4.from_ ((((((From.rfl_.next E14).next E15).next E16).next E76).next E84).only O18 (hge hg14))).pre3 | exact (hP5.from_ ((((((From.rfl_.next E14).next E15).next E16).next E76).next E84).only O18 (hge hg14))).whole | exact (hP5.from_ ((((((From.rfl_.next E14).next E15).next E16).next E76).next E84).only O18 (hge hg14))).rd 0 rfl | exact (hP5.from_ ((((((From.rfl_.next E14).next E15).next E16).next E76).next E84).only O18 (hge hg14))).rd 1 rfl | exact (hP5.from_ ((((((From.rfl_.next E14).next E15).next E16).next E76).next E84).only O18 (hge hg14))).rd 2 rfl | exact (P4.from_ From.rfl_).whole | exact (P4.from_ From.rfl_).rd 0 rfl | exact (P4.from_ From.rfl_).rd 1 rfl | exact (P4.from_ From.rfl_).rd 2 rfl | exact (P4.from_ From.rfl_).rd 3 rfl | exact (P4.from_ From.rfl_).rd 4 rfl | exact (P4.from_ From.rfl_).rd 5 rfl | exact (P4.from_ From.rfl_).rd 6 rfl | exact (P4.from_ From.rfl_).pre3 | exact (P7.from_ From.rfl_).whole | exact (P7.from_ From.rfl_).rd 0 rfl | exact (P7.from_ From.rfl_).rd 1 rfl | exact (P7.from_ From.rfl_).rd 2 rfl))) ?_
                                   refine st_val (ro_fieldAddr EntLaw9_f27_1 rfl) ?_
                                   refine st_val (ro_load EntLaw9_g3 rfl (by first | (first | exact (hP4.from_ ((((((From.rfl_.next E14).next E15).next E16).next E76).next E84).only O18 (hge hg14))).whole | exact (hP4.from_ ((((((From.rfl_.next E14).next E15).next E16).next E76).next E84).only O18 (hge hg14))).rd 0 rfl | exact (hP4.from_ ((((((From.rfl_.next E14).next E15).next E16).next E76).next E84).only O18 (hge hg14))).rd 1 rfl | exact (hP4.from_ ((((((From.rfl_.next E14).next E15).next E16).next E76).next E84).only O18 (hge hg14))).rd 2 rfl | exact (hP4.from_ ((((((From.rfl_.next E14).next E15).next E16).next E76).next E84).only O18 (hge hg14))).rd 3 rfl | exact (hP4.from_ ((((((From.rfl_.next E14).next E15).next E16).next E76).next E84).only O18 (hge hg14))).rd 4 rfl | exact (hP4.from_ ((((((From.rfl_.next E14).next E15).next E16).next E76).next E84).only O18 (hge hg14))).rd 5 rfl | exact (hP4.from_ ((((((From.rfl_.next E14).next E15).next E16).next E76).next E84).only O18 (hge hg14))).rd 6 rfl | exact (hP4.from_ ((((((From.rfl_.next E14).next E15).next E16).next E76).next E84).only O18 (hge hg14))).pre3 | exact (hP5.from_ ((((((From.rfl_.next E14).next E15).next E16).next E76).next E84).only O18 (hge hg14))).whole | exact (hP5.from_ ((((((From.rfl_.next E14).next E15).next E16).next E76).next E84).only O18 (hge hg14))).rd 0 rfl | exact (hP5.from_ ((((((From.rfl_.next E14).next E15).next E16).next E76).next E84).only O18 (hge hg14))).rd 1 rfl | exact (hP5.from_ ((((((From.rfl_.next E14).next E15).next E16).next E76).next E84).only O18 (hge hg14))).rd 2 rfl | exact (P4.from_ From.rfl_).whole | exact (P4.from_ From.rfl_).rd 0 rfl | exact (P4.from_ From.rfl_).rd 1 rfl | exact (P4.from_ From.rfl_).rd 2 rfl | exact (P4.from_ From.rfl_).rd 3 rfl | exact (P4.from_ From.rfl_).rd 4 rfl | exact (P4.from_ From.rfl_).rd 5 rfl | exact (P4.from_ From.rfl_).rd 6 rfl | exact (P4.from_ From.rfl_).pre3 | exact (P7.from_ From.rfl_).whole | exact (P7.from_ From.rfl_).rd 0 rfl | exact (P7.from_ From.rfl_).rd 1 rfl | exact (P7.from_ From.rfl_).rd 2 rfl))) ?_
                                   have hz103 : b16 + 1 ≤ (w23).heap.size := (hk16.from_ From.rfl_).lt
                                   refine st_call EntLaw9_k18 (refCut_rt B T I A1 c1 xs _ (hat.log.from_ (hB0.next ((((((From.rfl_.next E14).next E15).next E16).next E76).next E84).only O18 (hge hg14)))) hmx ⟨hmB0, hmB1⟩ (by omega)) ?_
                                   rintro v103 w26 ⟨A103, n103, c103, rfl, ho103, E103⟩
                                   refine st_putW (vs := [_, _, _]) EntLaw9_z25 rfl rfl (by simp [Value.oneCell']) (hk15.from_ (From.rfl_.next E103)) rfl ?_
                                   intro w27 O20 P20
                                   replace hk16 := (hk16.from_ E103).only O20 (by omega)
                                   replace T14 := (T14.from_ E103).only O20 (by omega) (by omega)
                                   have T15 : Told _ b15 (b16 + 1) (cutErr B T xs I) B T (xs.take (I - B).toNat) := ⟨_, _, _, _, _, P20, told_ok hcu (own_only (ownsRow_le ho103 hz103) O20 (by omega))⟩
                                   refine st_val (ro_assign (v := .int _ _) rfl) ?_
                                   refine st_nil ?_
                                   refine nx_cut (()) ⟨(by refine int_eq ?_; unfold cutErr; rw [if_pos hm]; split <;> (try split) <;> first | rfl | omega), trivial⟩ (by (iterate 19 refine agr_cons rfl ?_); exact agr_rfl) ?_
                                   first | exact ⟨T14, T15, hk16, ((((((((From.rfl_.next E14).next E15).next E16).next E76).next E84).only O18 (hge hg14)).next E103).only O20 (hge hg15))⟩ | exact ⟨T14.from_ From.rfl_, Told.zero (hk15.from_ From.rfl_) (by unfold cutErr; rw [if_pos hm]; split <;> omega), hk16.from_ From.rfl_, ((((((((From.rfl_.next E14).next E15).next E16).next E76).next E84).only O18 (hge hg14)).next E103).only O20 (hge hg15))⟩
                              · (try first | replace Q25 := bn_t Q25 | replace Q25 := bn_f Q25)
                                (try first | replace Q25 := bx_t Q25 | replace Q25 := bx_f Q25 | replace Q25 := be_t Q25 | replace Q25 := be_f Q25 | replace Q25 := of_decide_eq_true Q25 | replace Q25 := of_decide_eq_false Q25)
                                first
                                 | (exfalso; first | omega | contradiction | (cases Q25; done))
                                 | skip
                                   refine cd_skip ?_
                                   refine nx_cut (()) ⟨(by refine int_eq ?_; unfold cutErr; rw [if_pos hm]; split <;> (try split) <;> first | rfl | omega), trivial⟩ (by (iterate 13 refine agr_cons rfl ?_); exact agr_rfl) ?_
                                   first | exact ⟨T14, T15, hk16, ((((((From.rfl_.next E14).next E15).next E16).next E76).next E84).only O18 (hge hg14))⟩ | exact ⟨T14.from_ From.rfl_, Told.zero (hk15.from_ From.rfl_) (by unfold cutErr; rw [if_pos hm]; split <;> omega), hk16.from_ From.rfl_, ((((((From.rfl_.next E14).next E15).next E16).next E76).next E84).only O18 (hge hg14))⟩
                         · (try first | replace Q24 := bn_t Q24 | replace Q24 := bn_f Q24)
                           (try first | replace Q24 := bx_t Q24 | replace Q24 := bx_f Q24 | replace Q24 := be_t Q24 | replace Q24 := be_f Q24 | replace Q24 := of_decide_eq_true Q24 | replace Q24 := of_decide_eq_false Q24)
                           first
                            | (exfalso; first | omega | contradiction | (cases Q24; done))
                            | skip
                              refine st_gno rfl rfl ?_
                              refine st_gno rfl rfl ?_
                              refine st_gno rfl rfl ?_
                              refine st_gno rfl rfl ?_
                              refine st_val (ro_pickF (v := .bool _) rfl rfl) ?_
                              refine st_nil ?_
                              refine nx_then ?_
                              refine cd_condF rfl ?_
                              refine cd_skip ?_
                              refine nx_cut (()) ⟨(by refine int_eq ?_; unfold cutErr; rw [if_pos hm]; split <;> (try split) <;> first | rfl | omega), trivial⟩ (by (iterate 13 refine agr_cons rfl ?_); exact agr_rfl) ?_
                              first | exact ⟨T14, T15, hk16, ((((((From.rfl_.next E14).next E15).next E16).next E76).next E84).only O18 (hge hg14))⟩ | exact ⟨T14.from_ From.rfl_, Told.zero (hk15.from_ From.rfl_) (by unfold cutErr; rw [if_pos hm]; split <;> omega), hk16.from_ From.rfl_, ((((((From.rfl_.next E14).next E15).next E16).next E76).next E84).only O18 (hge hg14))⟩
                       · rintro ⟨⟩ ρ28 w28 ⟨T14, T15, hk16, hB⟩
                         refine cd_seq ?_
                         refine cd_region ?_
                         refine st_val (ro_assign (v := .int _ _) rfl) ?_
                         refine st_nil ?_
                         refine nx_then ?_
                         refine cd_cut (G := Option Addr × Nat × Nat) [104, 105, 106, 107, 108, 109, 110, 111, 112, 113, 114, 115, 116, 117, 118, 119, 120, 121, 122, 123, 124, 125, 126] (fun (A17, k17, c17) => [(11, .int .i64 (slErr B T xs I N)), (17, .slice A17 k17 c17)]) (fun (A17, k17, c17) w' => Told w' b14 (b16 + 1) (apErr B T xs es) B T (xs ++ es) ∧ Told w' b15 (b16 + 1) (cutErr B T xs I) B T (xs.take (I - B).toNat) ∧ Blk w' b16 25 #[.int .i64 0, .int .i64 0, .slice none 0 0] ∧ w'.ownsRow (b16 + 1) 63 3 (.slice A17 k17 c17) k17 (entV (if slErr B T xs I N = 0 then (xs.drop (I - B - 1).toNat).take N.toNat else [])) ∧ From wa w') ?_ ?_
                         · refine cd_seq ?_
                           refine cd_region ?_
                           refine st_val (ro_fieldAddr EntLaw9_f27_1 rfl) ?_
                           refine st_val (ro_load EntLaw9_g3 rfl (by first | (first | exact (hP4.from_ hB).whole | exact (hP4.from_ hB).rd 0 rfl | exact (hP4.from_ hB).rd 1 rfl | exact (hP4.from_ hB).rd 2 rfl | exact (hP4.from_ hB).rd 3 rfl | exact (hP4.from_ hB).rd 4 rfl | exact (hP4.from_ hB).rd 5 rfl | exact (hP4.from_ hB).rd 6 rfl | exact (hP4.from_ hB).pre3 | exact (hP5.from_ hB).whole | exact (hP5.from_ hB).rd 0 rfl | exact (hP5.from_ hB).rd 1 rfl | exact (hP5.from_ hB).rd 2 rfl | exact (P4.from_ From.rfl_).whole | exact (P4.from_ From.rfl_).rd 0 rfl | exact (P4.from_ From.rfl_).rd 1 rfl | exact (P4.from_ From.rfl_).rd 2 rfl | exact (P4.from_ From.rfl_).rd 3 rfl | exact (P4.from_ From.rfl_).rd 4 rfl | exact (P4.from_ From.rfl_).rd 5 rfl | exact (P4.from_ From.rfl_).rd 6 rfl | exact (P4.from_ From.rfl_).pre3 | exact (P7.from_ From.rfl_).whole | exact (P7.from_ From.rfl_).rd 0 rfl | exact (P7.from_ From.rfl_).rd 1 rfl | exact (P7.from_ From.rfl_).rd 2 rfl))) ?_
                           refine st_val (ro_fieldAddr EntLaw9_f27_0 rfl) ?_
                           refine st_val (ro_fieldAddr EntLaw9_f25_0 rfl) ?_
                           refine st_val (ro_load EntLaw9_g3 rfl (by first | (first | exact (hP4.from_ hB).whole | exact (hP4.from_ hB).rd 0 rfl | exact (hP4.from_ hB).rd 1 rfl | exact (hP4.from_ hB).rd 2 rfl | exact (hP4.from_ hB).rd 3 rfl | exact (hP4.from_ hB).rd 4 rfl | exact (hP4.from_ hB).rd 5 rfl | exact (hP4.from_ hB).rd 6 rfl | exact (hP4.from_ hB).pre3 | exact (hP5.from_ hB).whole | exact (hP5.from_ hB).rd 0 rfl | exact (hP5.from_ hB).rd 1 rfl | exact (hP5.from_ hB).rd 2 rfl | exact (P4.from_ From.rfl_).whole | exact (P4.from_ From.rfl_).rd 0 rfl | exact (P4.from_ From.rfl_).rd 1 rfl | exact (P4.from_ From.rfl_).rd 2 rfl | exact (P4.from_ From.rfl_).rd 3 rfl | exact (P4.from_ From.rfl_).rd 4 rfl | exact (P4.from_ From.rfl_).rd 5 rfl | exact (P4.from_ From.rfl_).rd 6 rfl | exact (P4.from_ From.rfl_).pre3 | exact (P7.from_ From.rfl_).whole | exact (P7.from_ From.rfl_).rd 0 rfl | exact (P7.from_ From.rfl_).rd 1 rfl | exact (P7.from_ From.rfl_).rd 2 rfl))) ?_
                           refine st_val (ro_gtr rfl rfl) ?_
                           refine st_val (ro_move (v := .bool _) rfl) ?_
                           refine st_split (t := 110) rfl (fun Q29 => ?_) (fun Q29 => ?_)
                           · (try first | replace Q29 := bn_t Q29 | replace Q29 := bn_f Q29)
                             (try first | replace Q29 := bx_t Q29 | replace Q29 := bx_f Q29 | replace Q29 := be_t Q29 | replace Q29 := be_f Q29 | replace Q29 := of_decide_eq_true Q29 | replace Q29 := of_decide_eq_false Q29)
                             first
                              | (exfalso; first | omega | contradiction | (cases Q29; done))
                              | skip
                                refine st_unguard rfl ?_
                                refine st_val (ro_fieldAddr EntLaw9_f27_1 rfl) ?_
                                refine st_unguard rfl ?_
                                refine st_val (ro_load EntLaw9_g3 rfl (by first | (first | exact (hP4.from_ hB).whole | exact (hP4.from_ hB).rd 0 rfl | exact (hP4.from_ hB).rd 1 rfl | exact (hP4.from_ hB).rd 2 rfl | exact (hP4.from_ hB).rd 3 rfl | exact (hP4.from_ hB).rd 4 rfl | exact (hP4.from_ hB).rd 5 rfl | exact (hP4.from_ hB).rd 6 rfl | exact (hP4.from_ hB).pre3 | exact (hP5.from_ hB).whole | exact (hP5.from_ hB).rd 0 rfl | exact (hP5.from_ hB).rd 1 rfl | exact (hP5.from_ hB).rd 2 rfl | exact (P4.from_ From.rfl_).whole | exact (P4.from_ From.rfl_).rd 0 rfl | exact (P4.from_ From.rfl_).rd 1 rfl | exact (P4.from_ From.rfl_).rd 2 rfl | exact (P4.from_ From.rfl_).rd 3 rfl | exact (P4.from_ From.rfl_).rd 4 rfl | exact (P4.from_ From.rfl_).rd 5 rfl | exact (P4.from_ From.rfl_).rd 6 rfl | exact (P4.from_ From.rfl_).pre3 | exact (P7.from_ From.rfl_).whole | exact (P7.from_ From.rfl_).rd 0 rfl | exact (P7.from_ From.rfl_).rd 1 rfl | exact (P7.from_ From.rfl_).rd 2 rfl))) ?_
                                refine st_unguard rfl ?_
                                refine st_val (ro_move (v := .int _ _) rfl) ?_
                                refine st_unguard rfl ?_
                                refine st_val (ro_add64 rfl rfl (by omega)) ?_
                                refine st_unguard rfl ?_
                                refine st_val (ro_leq rfl rfl) ?_
                                refine st_val (ro_pickT (v := .bool _) rfl rfl) ?_
                                refine st_nil ?_
                                refine nx_then ?_
                                refine cd_cond rfl (fun Q30 => ?_) (fun Q30 => ?_)
                                · (try first | replace Q30 := bn_t Q30 | replace Q30 := bn_f Q30)
                                  (try first | replace Q30 := bx_t Q30 | replace Q30 := bx_f Q30 | replace Q30 := be_t Q30 | replace Q30 := be_f Q30 | replace Q30 := of_decide_eq_true Q30 | replace Q30 := of_decide_eq_false Q30)
                                  first
                                   | (exfalso; first | omega | contradiction | (cases Q30; done))
                                   | skip
                                     refine cd_seq ?_
                                     refine cd_region ?_
                                     refine st_val (ro_assign (v := .int _ _) rfl) ?_
                                     refine st_nil ?_
                                     refine nx_then ?_
                                     refine cd_seq ?_
                                     refine cd_region ?_
                                     refine st_val (ro_fieldAddr EntLaw9_f27_4 rfl) ?_
                                     refine st_val (ro_load EntLaw9_g3 rfl (by first | (first | exact (hP4.from_ hB).whole | exact (hP4.from_ hB).rd 0 rfl | exact (hP4.from_ hB).rd 1 rfl | exact (hP4.from_ hB).rd 2 rfl | exact (hP4.from_ hB).rd 3 rfl | exact (hP4.from_ hB).rd 4 rfl | exact (hP4.from_ hB).rd 5 rfl | exact (hP4.from_ hB).rd 6 rfl | exact (hP4.from_ hB).pre3 | exact (hP5.from_ hB).whole | exact (hP5.from_ hB).rd 0 rfl | exact (hP5.from_ hB).rd 1 rfl | exact (hP5.from_ hB).rd 2 rfl | exact (P4.from_ From.rfl_).whole | exact (P4.from_ From.rfl_).rd 0 rfl | exact (P4.from_ From.rfl_).rd 1 rfl | exact (P4.from_ From.rfl_).rd 2 rfl | exact (P4.from_ From.rfl_).rd 3 rfl | exact (P4.from_ From.rfl_).rd 4 rfl | exact (P4.from_ From.rfl_).rd 5 rfl | exact (P4.from_ From.rfl_).rd 6 rfl | exact (P4.from_ From.rfl_).pre3 | exact (P7.from_ From.rfl_).whole | exact (P7.from_ From.rfl_).rd 0 rfl | exact (P7.from_ From.rfl_).rd 1 rfl | exact (P7.from_ From.rfl_).rd 2 rfl))) ?_
                                     refine st_val (ro_geq rfl rfl) ?_
                                     refine st_nil ?_
                                     refine nx_then ?_
                                     refine cd_cond rfl (fun Q31 => ?_) (fun Q31 => ?_)
                                     · (try first | replace Q31 := bn_t Q31 | replace Q31 := bn_f Q31)
                                       (try first | replace Q31 := bx_t Q31 | replace Q31 := bx_f Q31 | replace Q31 := be_t Q31 | replace Q31 := be_f Q31 | replace Q31 := of_decide_eq_true Q31 | replace Q31 := of_decide_eq_false Q31)
                                       have hsl : slErr B T xs I N = 0 := by unfold slErr; rw [if_pos hm, if_pos (by omega), if_neg (by omega)]
                                       first
                                        | (exfalso; first | omega | contradiction | (cases Q31; done))
                                        | skip
                                          refine cd_region ?_
                                          refine st_val (ro_fieldAddr EntLaw9_f27_0 rfl) ?_
                                          refine st_val (ro_loadA (cs := [_, _, _]) EntLaw9_g25 EntLaw9_z25 rfl (by first | (first | exact (hP4.from_ hB).whole | exact (hP4.from_ hB).rd 0 rfl | exact (hP4.from_ hB).rd 1 rfl | exact (hP4.from_ hB).rd 2 rfl | exact (hP4.from_ hB).rd 3 rfl | exact (hP4.from_ hB).rd 4 rfl | exact (hP4.from_ hB).rd 5 rfl | exact (hP4.from_ hB).rd 6 rfl | exact (hP4.from_ hB).pre3 | exact (hP5.from_ hB).whole | exact (hP5.from_ hB).rd 0 rfl | exact (hP5.from_ hB).rd 1 rfl | exact (hP5.from_ hB).rd 2 rfl | exact (P4.from_ From.rfl_).whole | exact (P4.from_ From.rfl_).rd 0 rfl | exact (P4.from_ From.rfl_).rd 1 rfl | exact (P4.from_ From.rfl_).rd 2 rfl | exact (P4.from_ From.rfl_).rd 3 rfl | exact (P4.from_ From.rfl_).rd 4 rfl | exact (P4.from_ From.rfl_).rd 5 rfl | exact (P4.from_ From.rfl_).rd 6 rfl | exact (P4.from_ From.rfl_).pre3 | exact (P7.from_ From.rfl_).whole | exact (P7.from_ From.rfl_).rd 0 rfl | exact (P7.from_ From.rfl_).rd 1 rfl | exact (P7.from_ From.rfl_).rd 2 rfl))) ?_
                                          refine st_val (ro_fieldAddr EntLaw9_f27_1 rfl) ?_
                                          refine st_val (ro_load EntLaw9_g3 rfl (by first | (first | exact (hP4.from_ hB).whole | exact (hP4.from_ hB).rd 0 rfl | exact (hP4.from_ hB).rd 1 rfl | exact (hP4.from_ hB).rd 2 rfl | exact (hP4.from_ hB).rd 3 rfl | exact (hP4.from_ hB).rd 4 rfl | exact (hP4.from_ hB).rd 5 rfl | exact (hP4.from_ hB).rd 6 rfl | exact (hP4.from_ hB).pre3 | exact (hP5.from_ hB).whole | exact (hP5.from_ hB).rd 0 rfl | exact (hP5.from_ hB).rd 1 rfl | exact (hP5.from_ hB).rd 2 rfl | exact (P4.from_ From.rfl_).whole | exact (P4.from_ From.rfl_).rd 0 rfl | exact (P4.from_ From.rfl_).rd 1 rfl | exact (P4.from_ From.rfl_).rd 2 rfl | exact (P4.from_ From.rfl_).rd 3 rfl | exact (P4.from_ From.rfl_).rd 4 rfl | exact (P4.from_ From.rfl_).rd 5 rfl | exact (P4.from_ From.rfl_).rd 6 rfl | exact (P4.from_ From.rfl_).pre3 | exact (P7.from_ From.rfl_).whole | exact (P7.from_ From.rfl_).rd 0 rfl | exact (P7.from_ From.rfl_).rd 1 rfl | exact (P7.from_ From.rfl_).rd 2 rfl))) ?_
                                          refine st_val (ro_fieldAddr EntLaw9_f27_4 rfl) ?_
                                          refine st_val (ro_load EntLaw9_g3 rfl (by first | (first | exact (hP4.from_ hB).whole | exact (hP4.from_ hB).rd 0 rfl | exact (hP4.from_ hB).rd 1 rfl | exact (hP4.from_ hB).rd 2 rfl | exact (hP4.from_ hB).rd 3 rfl | exact (hP4.from_ hB).rd 4 rfl | exact (hP4.from_ hB).rd 5 rfl | exact (hP4.from_ hB).rd 6 rfl | exact (hP4.from_ hB).pre3 | exact (hP5.from_ hB).whole | exact (hP5.from_ hB).rd 0 rfl | exact (hP5.from_ hB).rd 1 rfl | exact (hP5.from_ hB).rd 2 rfl | exact (P4.from_ From.rfl_).whole | exact (P4.from_ From.rfl_).rd 0 rfl | exact (P4.from_ From.rfl_).rd 1 rfl | exact (P4.from_ From.rfl_).rd 2 rfl | exact (P4.from_ From.rfl_).rd 3 rfl | exact (P4.from_ From.rfl_).rd 4 rfl | exact (P4.from_ From.rfl_).rd 5 rfl | exact (P4.from_ From.rfl_).rd 6 rfl | exact (P4.from_ From.rfl_).pre3 | exact (P7.from_ From.rfl_).whole | exact (P7.from_ From.rfl_).rd 0 rfl | exact (P7.from_ From.rfl_).rd 1 rfl | exact (P7.from_ From.rfl_).rd 2 rfl))) ?_
                                          have hz126 : b16 + 1 ≤ (w28).heap.size := (hk16.from_ From.rfl_).lt
                                          refine st_call EntLaw9_k19 (refSlice_rt B T I N A1 c1 xs _ (hat.log.from_ (hB0.next hB)) hm (by omega) (by omega)) ?_
                                          rintro v126 w32 ⟨A126, n126, c126, rfl, ho126, E126⟩
                                          refine st_val (ro_assign (v := .slice _ _ _) rfl) ?_
                                          refine st_val (ro_assign (v := .int _ _) rfl) ?_
                                          refine st_nil ?_
                                          refine nx_cut ((_, _, _)) ⟨(by refine int_eq ?_; unfold slErr; rw [if_pos hm]; split <;> (try split) <;> first | rfl | omega), rfl, trivial⟩ (by (iterate 27 refine agr_cons rfl ?_); exact agr_rfl) ?_
                                          refine ⟨T14.from_ (From.rfl_.next E126), T15.from_ (From.rfl_.next E126), hk16.from_ (From.rfl_.next E126), ?_, (hB.next E126)⟩
                                          first | (rw [if_pos hsl]; exact ownsRow_le ho126 hz126) | (rw [if_neg (by unfold slErr; rw [if_pos hm]; split <;> (try split) <;> omega)]; exact World.ownsRow_nil _ _ _ _)
                                     · (try first | replace Q31 := bn_t Q31 | replace Q31 := bn_f Q31)
                                       (try first | replace Q31 := bx_t Q31 | replace Q31 := bx_f Q31 | replace Q31 := be_t Q31 | replace Q31 := be_f Q31 | replace Q31 := of_decide_eq_true Q31 | replace Q31 := of_decide_eq_false Q31)
                                       first
                                        | (exfalso; first | omega | contradiction | (cases Q31; done))
                                        | skip
                                          refine cd_skip ?_
                                          refine nx_cut ((_, _, _)) ⟨(by refine int_eq ?_; unfold slErr; rw [if_pos hm]; split <;> (try split) <;> first | rfl | omega), rfl, trivial⟩ (by (iterate 18 refine agr_cons rfl ?_); exact agr_rfl) ?_
                                          refine ⟨T14.from_ From.rfl_, T15.from_ From.rfl_, hk16.from_ From.rfl_, ?_, hB⟩
                                          first | (rw [if_pos hsl]; exact ownsRow_le ho126 hz126) | (rw [if_neg (by unfold slErr; rw [if_pos hm]; split <;> (try split) <;> omega)]; exact World.ownsRow_nil _ _ _ _)
                                · (try first | replace Q30 := bn_t Q30 | replace Q30 := bn_f Q30)
                                  (try first | replace Q30 := bx_t Q30 | replace Q30 := bx_f Q30 | replace Q30 := be_t Q30 | replace Q30 := be_f Q30 | replace Q30 := of_decide_eq_true Q30 | replace Q30 := of_decide_eq_false Q30)
                                  first
                                   | (exfalso; first | omega | contradiction | (cases Q30; done))
                                   | skip
                                     refine cd_skip ?_
                                     refine nx_cut ((_, _, _)) ⟨(by refine int_eq ?_; unfold slErr; rw [if_pos hm]; split <;> (try split) <;> first | rfl | omega), rfl, trivial⟩ (by (iterate 14 refine agr_cons rfl ?_); exact agr_rfl) ?_
                                     refine ⟨T14.from_ From.rfl_, T15.from_ From.rfl_, hk16.from_ From.rfl_, ?_, hB⟩
                                     first | (rw [if_pos hsl]; exact ownsRow_le ho126 hz126) | (rw [if_neg (by unfold slErr; rw [if_pos hm]; split <;> (try split) <;> omega)]; exact World.ownsRow_nil _ _ _ _)
                           · (try first | replace Q29 := bn_t Q29 | replace Q29 := bn_f Q29)
                             (try first | replace Q29 := bx_t Q29 | replace Q29 := bx_f Q29 | replace Q29 := be_t Q29 | replace Q29 := be_f Q29 | replace Q29 := of_decide_eq_true Q29 | replace Q29 := of_decide_eq_false Q29)
                             first
                              | (exfalso; first | omega | contradiction | (cases Q29; done))
                              | skip
                                refine st_gno rfl rfl ?_
                                refine st_gno rfl rfl ?_
                                refine st_gno rfl rfl ?_
                                refine st_gno rfl rfl ?_
                                refine st_gno rfl rfl ?_
                                refine st_val (ro_pickF (v := .bool _) rfl rfl) ?_
                                refine st_nil ?_
                                refine nx_then ?_
                                refine cd_condF rfl ?_
                                refine cd_skip ?_
                                refine nx_cut ((_, _, _)) ⟨(by refine int_eq ?_; unfold slErr; rw [if_pos hm]; split <;> (try split) <;> first | rfl | omega), rfl, trivial⟩ (by (iterate 14 refine agr_cons rfl ?_); exact agr_rfl) ?_
                                refine ⟨T14.from_ From.rfl_, T15.from_ From.rfl_, hk16.from_ From.rfl_, ?_, hB⟩
                                first | (rw [if_pos hsl]; exact ownsRow_le ho126 hz126) | (rw [if_neg (by unfold slErr; rw [if_pos hm]; split <;> (try split) <;> omega)]; exact World.ownsRow_nil _ _ _ _)
                         · rintro ⟨A17, k17, c17⟩ ρ33 w33 ⟨T14, T15, hk16, ho17, hB⟩
                           refine cd_cut (G := Unit) [127, 128, 129, 130, 131, 132, 133, 134, 135, 136, 137, 138, 139, 140, 141, 142, 143, 144, 145, 146, 147, 148] (fun _ => [(12, .int .i64 (coErr B T xs I))]) (fun _ w' => Told w' b14 (b16 + 1) (apErr B T xs es) B T (xs ++ es) ∧ Told w' b15 (b16 + 1) (cutErr B T xs I) B T (xs.take (I - B).toNat) ∧ Told w' b16 (b16 + 1) (coErr B T xs I) I (termI B T xs I) (xs.drop (I - B).toNat) ∧ w'.ownsRow (b16 + 1) 63 3 (.slice A17 k17 c17) k17 (entV (if slErr B T xs I N = 0 then (xs.drop (I - B - 1).toNat).take N.toNat else [])) ∧ From wa w') ?_ ?_
                           · refine cd_seq ?_
                             refine cd_region ?_
                             refine st_val (ro_fieldAddr EntLaw9_f27_1 rfl) ?_
                             refine st_val (ro_load EntLaw9_g3 rfl (by first | (first | exact (hP4.from_ hB).whole | exact (hP4.from_ hB).rd 0 rfl | exact (hP4.from_ hB).rd 1 rfl | exact (hP4.from_ hB).rd 2 rfl | exact (hP4.from_ hB).rd 3 rfl | exact (hP4.from_ hB).rd 4 rfl | exact (hP4.from_ hB).rd 5 rfl | exact (hP4.from_ hB).rd 6 rfl | exact (hP4.from_ hB).pre3 | exact (hP5.from_ hB).whole | exact (hP5.from_ hB).rd 0 rfl | exact (hP5.from_ hB).rd 1 rfl | exact (hP5.from_ hB).rd 2 rfl | exact (P4.from_ From.rfl_).whole | exact (P4.from_ From.rfl_).rd 0 rfl | exact (P4.from_ From.rfl_).rd 1 rfl | exact (P4.from_ From.rfl_).rd 2 rfl | exact (P4.from_ From.rfl_).rd 3 rfl | exact (P4.from_ From.rfl_).rd 4 rfl | exact (P4.from_ From.rfl_).rd 5 rfl | exact (P4.from_ From.rfl_).rd 6 rfl | exact (P4.from_ From.rfl_).pre3 | exact (P7.from_ From.rfl_).whole | exact (P7.from_ From.rfl_).rd 0 rfl | exact (P7.from_ From.rfl_).rd 1 rfl | exact (P7.from_ From.rfl_).rd 2 rfl))) ?_
                             refine st_val (ro_fieldAddr EntLaw9_f27_0 rfl) ?_
                             refine st_val (ro_fieldAddr EntLaw9_f25_0 rfl) ?_
                             refine st_val (ro_load EntLaw9_g3 rfl (by first | (first | exact (hP4.from_ hB).whole | exact (hP4.from_ hB).rd 0 rfl | exact (hP4.from_ hB).rd 1 rfl | exact (hP4.from_ hB).rd 2 rfl | exact (hP4.from_ hB).rd 3 rfl | exact (hP4.from_ hB).rd 4 rfl | exact (hP4.from_ hB).rd 5 rfl | exact (hP4.from_ hB).rd 6 rfl | exact (hP4.from_ hB).pre3 | exact (hP5.from_ hB).whole | exact (hP5.from_ hB).rd 0 rfl | exact (hP5.from_ hB).rd 1 rfl | exact (hP5.from_ hB).rd 2 rfl | exact (P4.from_ From.rfl_).whole | exact (P4.from_ From.rfl_).rd 0 rfl | exact (P4.from_ From.rfl_).rd 1 rfl | exact (P4.from_ From.rfl_).rd 2 rfl | exact (P4.from_ From.rfl_).rd 3 rfl | exact (P4.from_ From.rfl_).rd 4 rfl | exact (P4.from_ From.rfl_).rd 5 rfl | exact (P4.from_ From.rfl_).rd 6 rfl | exact (P4.from_ From.rfl_).pre3 | exact (P7.from_ From.rfl_).whole | exact (P7.from_ From.rfl_).rd 0 rfl | exact (P7.from_ From.rfl_).rd 1 rfl | exact (P7.from_ From.rfl_).rd 2 rfl))) ?_
                             refine st_val (ro_gtr rfl rfl) ?_
                             refine st_val (ro_move (v := .bool _) rfl) ?_
                             refine st_split (t := 133) rfl (fun Q34 => ?_) (fun Q34 => ?_)
                             · (try first | replace Q34 := bn_t Q34 | replace Q34 := bn_f Q34)
                               (try first | replace Q34 := bx_t Q34 | replace Q34 := bx_f Q34 | replace Q34 := be_t Q34 | replace Q34 := be_f Q34 | replace Q34 := of_decide_eq_true Q34 | replace Q34 := of_decide_eq_false Q34)
                               first
                                | (exfalso; first | omega | contradiction | (cases Q34; done))
                                | skip
                                  refine st_unguard rfl ?_
                                  refine st_val (ro_fieldAddr EntLaw9_f27_1 rfl) ?_
                                  refine st_unguard rfl ?_
                                  refine st_val (ro_load EntLaw9_g3 rfl (by first | (first | exact (hP4.from_ hB).whole | exact (hP4.from_ hB).rd 0 rfl | exact (hP4.from_ hB).rd 1 rfl | exact (hP4.from_ hB).rd 2 rfl | exact (hP4.from_ hB).rd 3 rfl | exact (hP4.from_ hB).rd 4 rfl | exact (hP4.from_ hB).rd 5 rfl | exact (hP4.from_ hB).rd 6 rfl | exact (hP4.from_ hB).pre3 | exact (hP5.from_ hB).whole | exact (hP5.from_ hB).rd 0 rfl | exact (hP5.from_ hB).rd 1 rfl | exact (hP5.from_ hB).rd 2 rfl | exact (P4.from_ From.rfl_).whole | exact (P4.from_ From.rfl_).rd 0 rfl | exact (P4.from_ From.rfl_).rd 1 rfl | exact (P4.from_ From.rfl_).rd 2 rfl | exact (P4.from_ From.rfl_).rd 3 rfl | exact (P4.from_ From.rfl_).rd 4 rfl | exact (P4.from_ From.rfl_).rd 5 rfl | exact (P4.from_ From.rfl_).rd 6 rfl | exact (P4.from_ From.rfl_).pre3 | exact (P7.from_ From.rfl_).whole | exact (P7.from_ From.rfl_).rd 0 rfl | exact (P7.from_ From.rfl_).rd 1 rfl | exact (P7.from_ From.rfl_).rd 2 rfl))) ?_
                                  refine st_unguard rfl ?_
                                  refine st_val (ro_move (v := .int _ _) rfl) ?_
                                  refine st_unguard rfl ?_
                                  refine st_val (ro_leq rfl rfl) ?_
                                  refine st_val (ro_pickT (v := .bool _) rfl rfl) ?_
                                  refine st_val (ro_move (v := .bool _) rfl) ?_
                                  refine st_split (t := 139) rfl (fun Q35 => ?_) (fun Q35 => ?_)
                                  · (try first | replace Q35 := bn_t Q35 | replace Q35 := bn_f Q35)
                                    (try first | replace Q35 := bx_t Q35 | replace Q35 := bx_f Q35 | replace Q35 := be_t Q35 | replace Q35 := be_f Q35 | replace Q35 := of_decide_eq_true Q35 | replace Q35 := of_decide_eq_false Q35)
                                    first
                                     | (exfalso; first | omega | contradiction | (cases Q35; done))
                                     | skip
                                       refine st_unguard rfl ?_
                                       refine st_val (ro_fieldAddr EntLaw9_f27_1 rfl) ?_
                                       refine st_unguard rfl ?_
                                       refine st_val (ro_load EntLaw9_g3 rfl (by first | (first | exact (hP4.from_ hB).whole | exact (hP4.from_ hB).rd 0 rfl | exact (hP4.from_ hB).rd 1 rfl | exact (hP4.from_ hB).rd 2 rfl | exact (hP4.from_ hB).rd 3 rfl | exact (hP4.from_ hB).rd 4 rfl | exact (hP4.from_ hB).rd 5 rfl | exact (hP4.from_ hB).rd 6 rfl | exact (hP4.from_ hB).pre3 | exact (hP5.from_ hB).whole | exact (hP5.from_ hB).rd 0 rfl | exact (hP5.from_ hB).rd 1 rfl | exact (hP5.from_ hB).rd 2 rfl | exact (P4.from_ From.rfl_).whole | exact (P4.from_ From.rfl_).rd 0 rfl | exact (P4.from_ From.rfl_).rd 1 rfl | exact (P4.from_ From.rfl_).rd 2 rfl | exact (P4.from_ From.rfl_).rd 3 rfl | exact (P4.from_ From.rfl_).rd 4 rfl | exact (P4.from_ From.rfl_).rd 5 rfl | exact (P4.from_ From.rfl_).rd 6 rfl | exact (P4.from_ From.rfl_).pre3 | exact (P7.from_ From.rfl_).whole | exact (P7.from_ From.rfl_).rd 0 rfl | exact (P7.from_ From.rfl_).rd 1 rfl | exact (P7.from_ From.rfl_).rd 2 rfl))) ?_
                                       refine st_unguard rfl ?_
                                       refine st_val (ro_leq rfl rfl) ?_
                                       refine st_val (ro_pickT (v := .bool _) rfl rfl) ?_
                                       refine st_nil ?_
                                       refine nx_then ?_
                                       refine cd_cond rfl (fun Q36 => ?_) (fun Q36 => ?_)
                                       · (try first | replace Q36 := bn_t Q36 | replace Q36 := bn_f Q36)
                                         (try first | replace Q36 := bx_t Q36 | replace Q36 := bx_f Q36 | replace Q36 := be_t Q36 | replace Q36 := be_f Q36 | replace Q36 := of_decide_eq_true Q36 | replace Q36 := of_decide_eq_false Q36)
                                         have hco : coErr B T xs I = 0 := by unfold coErr; rw [if_pos hm, if_pos (by omega)]
                                         first
                                          | (exfalso; first | omega | contradiction | (cases Q36; done))
                                          | skip
                                            refine cd_region ?_
                                            refine st_val (ro_fieldAddr EntLaw9_f27_0 rfl) ?_
                                            refine st_val (ro_loadA (cs := [_, _, _]) EntLaw9_g25 EntLaw9_z25 rfl (by first | (first | exact (hP4.from_ hB).whole | exact (hP4.from_ hB).rd 0 rfl | exact (hP4.from_ hB).rd 1 rfl | exact (hP4.from_ hB).rd 2 rfl | exact (hP4.from_ hB).rd 3 rfl | exact (hP4.from_ hB).rd 4 rfl | exact (hP4.from_ hB).rd 5 rfl | exact (hP4.from_ hB).rd 6 rfl | exact (hP4.from_ hB).pre3 | exact (hP5.from_ hB).whole | exact (hP5.from_ hB).rd 0 rfl | exact (hP5.from_ hB).rd 1 rfl | exact (hP5.from_ hB).rd 2 rfl | exact (P4.from_ From.rfl_).whole | exact (P4.from_ From.rfl_).rd 0 rfl | exact (P4.from_ From.rfl_).rd 1 rfl | exact (P4.from_ From.rfl_).rd 2 rfl | exact (P4.from_ From.rfl_).rd 3 rfl | exact (P4.from_ From.rfl_).rd 4 rfl | exact (P4.from_ From.rfl_).rd 5 rfl | exact (P4.from_ From.rfl_).rd 6 rfl | exact (P4.from_ From.rfl_).pre3 | exact (P7.from_ From.rfl_).whole | exact (P7.from_ From.rfl_).rd 0 rfl | exact (P7.from_ From.rfl_).rd 1 rfl | exact (P7.from_ From.rfl_).rd 2 rfl))) ?_
                                            refine st_val (ro_fieldAddr EntLaw9_f27_1 rfl) ?_
                                            refine st_val (ro_load EntLaw9_g3 rfl (by first | (first | exact (hP4.from_ hB).whole | exact (hP4.from_ hB).rd 0 rfl | exact (hP4.from_ hB).rd 1 rfl | exact (hP4.from_ hB).rd 2 rfl | exact (hP4.from_ hB).rd 3 rfl | exact (hP4.from_ hB).rd 4 rfl | exact (hP4.from_ hB).rd 5 rfl | exact (hP4.from_ hB).rd 6 rfl | exact (hP4.from_ hB).pre3 | exact (hP5.from_ hB).whole | exact (hP5.from_ hB).rd 0 rfl | exact (hP5.from_ hB).rd 1 rfl | exact (hP5.from_ hB).rd 2 rfl | exact (P4.from_ From.rfl_).whole | exact (P4.from_ From.rfl_).rd 0 rfl | exact (P4.from_ From.rfl_).rd 1 rfl | exact (P4.from_ From.rfl_).rd 2 rfl | exact (P4.from_ From.rfl_).rd 3 rfl | exact (P4.from_ From.rfl_).rd 4 rfl | exact (P4.from_ From.rfl_).rd 5 rfl | exact (P4.from_ From.rfl_).rd 6 rfl | exact (P4.from_ From.rfl_).pre3 | exact (P7.from_ From.rfl_).whole | exact (P7.from_ From.rfl_).rd 0 rfl | exact (P7.from_ From.rfl_).rd 1 rfl | exact (P7.from_ From.rfl_).rd 2 rfl))) ?_
                                            have hz148 : b16 + 1 ≤ (w33).heap.size := (hk16.from_ From.rfl_).lt
                                            refine st_call EntLaw9_k20 (refCompact_rt B T I A1 c1 xs _ (hat.log.from_ (hB0.next hB)) hm (by omega)) ?_
                                            rintro v148 w37 ⟨A148, n148, c148, rfl, ho148, E148⟩
                                            refine st_putW (vs := [_, _, _]) EntLaw9_z25 rfl rfl (by simp [Value.oneCell']) (hk16.from_ (From.rfl_.next E148)) rfl ?_
                                            intro w38 O27 P27
                                            replace T14 := (T14.from_ E148).only O27 (by omega) (by omega)
                                            replace T15 := (T15.from_ E148).only O27 (by omega) (by omega)
                                            replace ho17 := own_only (ho17.kept_from E148) O27 (by omega)
                                            have T16 : Told _ b16 (b16 + 1) (coErr B T xs I) I (termI B T xs I) (xs.drop (I - B).toNat) := ⟨_, _, _, _, _, P27, told_ok hco (own_only (ownsRow_le ho148 hz148) O27 (by omega))⟩
                                            refine st_val (ro_assign (v := .int _ _) rfl) ?_
                                            refine st_nil ?_
                                            refine nx_cut (()) ⟨(by refine int_eq ?_; unfold coErr; rw [if_pos hm]; split <;> (try split) <;> first | rfl | omega), trivial⟩ (by (iterate 25 refine agr_cons rfl ?_); exact agr_rfl) ?_
                                            first | exact ⟨T14, T15, T16, ho17, ((hB.next E148).only O27 (hge hg16))⟩ | exact ⟨T14, T15, Told.zero hk16 (by unfold coErr; rw [if_pos hm]; split <;> omega), ho17, ((hB.next E148).only O27 (hge hg16))⟩
                                       · (try first | replace Q36 := bn_t Q36 | replace Q36 := bn_f Q36)
                                         (try first | replace Q36 := bx_t Q36 | replace Q36 := bx_f Q36 | replace Q36 := be_t Q36 | replace Q36 := be_f Q36 | replace Q36 := of_decide_eq_true Q36 | replace Q36 := of_decide_eq_false Q36)
                                         first
                                          | (exfalso; first | omega | contradiction | (cases Q36; done))
                                          | skip
                                            refine cd_skip ?_
                                            refine nx_cut (()) ⟨(by refine int_eq ?_; unfold coErr; rw [if_pos hm]; split <;> (try split) <;> first | rfl | omega), trivial⟩ (by (iterate 19 refine agr_cons rfl ?_); exact agr_rfl) ?_
                                            first | exact ⟨T14, T15, T16, ho17, hB⟩ | exact ⟨T14, T15, Told.zero hk16 (by unfold coErr; rw [if_pos hm]; split <;> omega), ho17, hB⟩
                                  · (try first | replace Q35 := bn_t Q35 | replace Q35 := bn_f Q35)
                                    (try first | replace Q35 := bx_t Q35 | replace Q35 := bx_f Q35 | replace Q35 := be_t Q35 | replace Q35 := be_f Q35 | replace Q35 := of_decide_eq_true Q35 | replace Q35 := of_decide_eq_false Q35)
                                    first
                                     | (exfalso; first | omega | contradiction | (cases Q35; done))
                                     | skip
                                       refine st_gno rfl rfl ?_
                                       refine st_gno rfl rfl ?_
                                       refine st_gno rfl rfl ?_
                                       refine st_val (ro_pickF (v := .bool _) rfl rfl) ?_
                                       refine st_nil ?_
                                       refine nx_then ?_
                                       refine cd_condF rfl ?_
                                       refine cd_skip ?_
                                       refine nx_cut (()) ⟨(by refine int_eq ?_; unfold coErr; rw [if_pos hm]; split <;> (try split) <;> first | rfl | omega), trivial⟩ (by (iterate 19 refine agr_cons rfl ?_); exact agr_rfl) ?_
                                       first | exact ⟨T14, T15, T16, ho17, hB⟩ | exact ⟨T14, T15, Told.zero hk16 (by unfold coErr; rw [if_pos hm]; split <;> omega), ho17, hB⟩
                             · (try first | replace Q34 := bn_t Q34 | replace Q34 := bn_f Q34)
                               (try first | replace Q34 := bx_t Q34 | replace Q34 := bx_f Q34 | replace Q34 := be_t Q34 | replace Q34 := be_f Q34 | replace Q34 := of_decide_eq_true Q34 | replace Q34 := of_decide_eq_false Q34)
                               first
                                | (exfalso; first | omega | contradiction | (cases Q34; done))
                                | skip
                                  refine st_gno rfl rfl ?_
                                  refine st_gno rfl rfl ?_
                                  refine st_gno rfl rfl ?_
                                  refine st_gno rfl rfl ?_
                                  refine st_val (ro_pickF (v := .bool _) rfl rfl) ?_
                                  refine st_val (ro_move (v := .bool _) rfl) ?_
                                  refine st_gno rfl rfl ?_
                                  refine st_gno rfl rfl ?_
                                  refine st_gno rfl rfl ?_
                                  refine st_val (ro_pickF (v := .bool _) rfl rfl) ?_
                                  refine st_nil ?_
                                  refine nx_then ?_
                                  refine cd_condF rfl ?_
                                  refine cd_skip ?_
                                  refine nx_cut (()) ⟨(by refine int_eq ?_; unfold coErr; rw [if_pos hm]; split <;> (try split) <;> first | rfl | omega), trivial⟩ (by (iterate 18 refine agr_cons rfl ?_); exact agr_rfl) ?_
                                  first | exact ⟨T14, T15, T16, ho17, hB⟩ | exact ⟨T14, T15, Told.zero hk16 (by unfold coErr; rw [if_pos hm]; split <;> omega), ho17, hB⟩
                           · rintro ⟨⟩ ρ39 w39 ⟨T14, T15, T16, ho17, hB⟩
                             refine cd_seq ?_
                             refine cd_region ?_
                             refine st_val (ro_assign (v := .int _ _) rfl) ?_
                             refine st_nil ?_
                             refine nx_then ?_
                             refine cd_seq ?_
                             refine cd_region ?_
                             refine st_val (ro_fieldAddr EntLaw9_f27_0 rfl) ?_
                             refine st_val (ro_loadA (cs := [_, _, _]) EntLaw9_g25 EntLaw9_z25 rfl (by first | (first | exact (hP4.from_ hB).whole | exact (hP4.from_ hB).rd 0 rfl | exact (hP4.from_ hB).rd 1 rfl | exact (hP4.from_ hB).rd 2 rfl | exact (hP4.from_ hB).rd 3 rfl | exact (hP4.from_ hB).rd 4 rfl | exact (hP4.from_ hB).rd 5 rfl | exact (hP4.from_ hB).rd 6 rfl | exact (hP4.from_ hB).pre3 | exact (hP5.from_ hB).whole | exact (hP5.from_ hB).rd 0 rfl | exact (hP5.from_ hB).rd 1 rfl | exact (hP5.from_ hB).rd 2 rfl | exact (P4.from_ From.rfl_).whole | exact (P4.from_ From.rfl_).rd 0 rfl | exact (P4.from_ From.rfl_).rd 1 rfl | exact (P4.from_ From.rfl_).rd 2 rfl | exact (P4.from_ From.rfl_).rd 3 rfl | exact (P4.from_ From.rfl_).rd 4 rfl | exact (P4.from_ From.rfl_).rd 5 rfl | exact (P4.from_ From.rfl_).rd 6 rfl | exact (P4.from_ From.rfl_).pre3 | exact (P7.from_ From.rfl_).whole | exact (P7.from_ From.rfl_).rd 0 rfl | exact (P7.from_ From.rfl_).rd 1 rfl | exact (P7.from_ From.rfl_).rd 2 rfl))) ?_
                             refine st_val (ro_fieldAddr EntLaw9_f27_1 rfl) ?_
                             refine st_val (ro_load EntLaw9_g3 rfl (by first | (first | exact (hP4.from_ hB).whole | exact (hP4.from_ hB).rd 0 rfl | exact (hP4.from_ hB).rd 1 rfl | exact (hP4.from_ hB).rd 2 rfl | exact (hP4.from_ hB).rd 3 rfl | exact (hP4.from_ hB).rd 4 rfl | exact (hP4.from_ hB).rd 5 rfl | exact (hP4.from_ hB).rd 6 rfl | exact (hP4.from_ hB).pre3 | exact (hP5.from_ hB).whole | exact (hP5.from_ hB).rd 0 rfl | exact (hP5.from_ hB).rd 1 rfl | exact (hP5.from_ hB).rd 2 rfl | exact (P4.from_ From.rfl_).whole | exact (P4.from_ From.rfl_).rd 0 rfl | exact (P4.from_ From.rfl_).rd 1 rfl | exact (P4.from_ From.rfl_).rd 2 rfl | exact (P4.from_ From.rfl_).rd 3 rfl | exact (P4.from_ From.rfl_).rd 4 rfl | exact (P4.from_ From.rfl_).rd 5 rfl | exact (P4.from_ From.rfl_).rd 6 rfl | exact (P4.from_ From.rfl_).pre3 | exact (P7.from_ From.rfl_).whole | exact (P7.from_ From.rfl_).rd 0 rfl | exact (P7.from_ From.rfl_).rd 1 rfl | exact (P7.from_ From.rfl_).rd 2 rfl))) ?_
                             refine st_call EntLaw9_k21 (refTerm_rt3 B T I A1 _ c1 xs _ (hat.log.from_ (hB0.next hB)) hm) ?_
                             rintro v154 w40 ⟨rfl, E154⟩
                             refine st_val (ro_move (v := .tuple _) rfl) ?_
                             refine st_val (ro_extract rfl rfl) ?_
                             refine st_val (ro_extract rfl rfl) ?_
                             refine st_val (ro_assign (v := .int _ _) rfl) ?_
                             refine st_val (ro_assign (v := .bool _) rfl) ?_
                             refine st_nil ?_
                             refine nx_then ?_
                             refine cd_cut (G := Unit) [157, 158] (fun _ => [(13, .int .i64 (teE B T xs I)), (20, .int .i64 (teV B T xs I))]) (fun _ w' => w40 = w') ?_ ?_
                             · refine cd_seq ?_
                               refine cd_region ?_
                               refine st_val (ro_move (v := .bool _) rfl) ?_
                               refine st_nil ?_
                               refine nx_then ?_
                               refine cd_cond rfl (fun Q41 => ?_) (fun Q41 => ?_)
                               · (try first | replace Q41 := bn_t Q41 | replace Q41 := bn_f Q41)
                                 (try first | replace Q41 := bx_t Q41 | replace Q41 := bx_f Q41 | replace Q41 := be_t Q41 | replace Q41 := be_f Q41 | replace Q41 := of_decide_eq_true Q41 | replace Q41 := of_decide_eq_false Q41)
                                 have hte : teE B T xs I = 0 := by unfold teE; rw [if_pos hm, if_pos Q41]
                                 have htv : teV B T xs I = (if B ≤ I ∧ I ≤ lastI B xs then termI B T xs I else 0) := if_pos hm
                                 first
                                  | (exfalso; first | omega | contradiction | (cases Q41; done))
                                  | skip
                                    refine cd_region ?_
                                    refine st_val (ro_move (v := .int _ _) rfl) ?_
                                    refine st_val (ro_assign (v := .int _ _) rfl) ?_
                                    refine st_val (ro_assign (v := .int _ _) rfl) ?_
                                    refine st_nil ?_
                                    refine nx_cut (()) ⟨(int_eq hte.symm), (int_eq htv.symm), trivial⟩ (by (iterate 4 refine agr_cons rfl ?_); exact agr_rfl) ?_
                                    exact rfl
                               · (try first | replace Q41 := bn_t Q41 | replace Q41 := bn_f Q41)
                                 (try first | replace Q41 := bx_t Q41 | replace Q41 := bx_f Q41 | replace Q41 := be_t Q41 | replace Q41 := be_f Q41 | replace Q41 := of_decide_eq_true Q41 | replace Q41 := of_decide_eq_false Q41)
                                 have hte : teE B T xs I = 3 := by unfold teE; rw [if_pos hm, if_neg Q41]
                                 have htv : teV B T xs I = 0 := by unfold teV; rw [if_pos hm, if_neg Q41]
                                 first
                                  | (exfalso; first | omega | contradiction | (cases Q41; done))
                                  | skip
                                    refine cd_skip ?_
                                    refine nx_cut (()) ⟨(int_eq hte.symm), (int_eq htv.symm), trivial⟩ (by (iterate 1 refine agr_cons rfl ?_); exact agr_rfl) ?_
                                    exact rfl
                             · rintro ⟨⟩ ρ42 w42 rfl
                               refine cd_region ?_
                               refine st_val (ro_fieldAddr EntLaw9_f27_0 rfl) ?_
                               refine st_val (ro_loadA (cs := [_, _, _]) EntLaw9_g25 EntLaw9_z25 rfl (by first | (first | exact (hP4.from_ (hB.next E154)).whole | exact (hP4.from_ (hB.next E154)).rd 0 rfl | exact (hP4.from_ (hB.next E154)).rd 1 rfl | exact (hP4.from_ (hB.next E154)).rd 2 rfl | exact (hP4.from_ (hB.next E154)).rd 3 rfl | exact (hP4.from_ (hB.next E154)).rd 4 rfl | exact (hP4.from_ (hB.next E154)).rd 5 rfl | exact (hP4.from_ (hB.next E154)).rd 6 rfl | exact (hP4.from_ (hB.next E154)).pre3 | exact (hP5.from_ (hB.next E154)).whole | exact (hP5.from_ (hB.next E154)).rd 0 rfl | exact (hP5.from_ (hB.next E154)).rd 1 rfl | exact (hP5.from_ (hB.next E154)).rd 2 rfl | exact (P4.from_ (From.rfl_.next E154)).whole | exact (P4.from_ (From.rfl_.next E154)).rd 0 rfl | exact (P4.from_ (From.rfl_.next E154)).rd 1 rfl | exact (P4.from_ (From.rfl_.next E154)).rd 2 rfl | exact (P4.from_ (From.rfl_.next E154)).rd 3 rfl | exact (P4.from_ (From.rfl_.next E154)).rd 4 rfl | exact (P4.from_ (From.rfl_.next E154)).rd 5 rfl | exact (P4.from_ (From.rfl_.next E154)).rd 6 rfl | exact (P4.from_ (From.rfl_.next E154)).pre3 | exact (P7.from_ (From.rfl_.next E154)).whole | exact (P7.from_ (From.rfl_.next E154)).rd 0 rfl | exact (P7.from_ (From.rfl_.next E154)).rd 1 rfl | exact (P7.from_ (From.rfl_.next E154)).rd 2 rfl))) ?_
                               refine st_val (ro_fieldAddr EntLaw9_f27_1 rfl) ?_
                               refine st_val (ro_load EntLaw9_g3 rfl (by first | (first | exact (hP4.from_ (hB.next E154)).whole | exact (hP4.from_ (hB.next E154)).rd 0 rfl | exact (hP4.from_ (hB.next E154)).rd 1 rfl | exact (hP4.from_ (hB.next E154)).rd 2 rfl | exact (hP4.from_ (hB.next E154)).rd 3 rfl | exact (hP4.from_ (hB.next E154)).rd 4 rfl | exact (hP4.from_ (hB.next E154)).rd 5 rfl | exact (hP4.from_ (hB.next E154)).rd 6 rfl | exact (hP4.from_ (hB.next E154)).pre3 | exact (hP5.from_ (hB.next E154)).whole | exact (hP5.from_ (hB.next E154)).rd 0 rfl | exact (hP5.from_ (hB.next E154)).rd 1 rfl | exact (hP5.from_ (hB.next E154)).rd 2 rfl | exact (P4.from_ (From.rfl_.next E154)).whole | exact (P4.from_ (From.rfl_.next E154)).rd 0 rfl | exact (P4.from_ (From.rfl_.next E154)).rd 1 rfl | exact (P4.from_ (From.rfl_.next E154)).rd 2 rfl | exact (P4.from_ (From.rfl_.next E154)).rd 3 rfl | exact (P4.from_ (From.rfl_.next E154)).rd 4 rfl | exact (P4.from_ (From.rfl_.next E154)).rd 5 rfl | exact (P4.from_ (From.rfl_.next E154)).rd 6 rfl | exact (P4.from_ (From.rfl_.next E154)).pre3 | exact (P7.from_ (From.rfl_.next E154)).whole | exact (P7.from_ (From.rfl_.next E154)).rd 0 rfl | exact (P7.from_ (From.rfl_.next E154)).rd 1 rfl | exact (P7.from_ (From.rfl_.next E154)).rd 2 rfl))) ?_
                               refine st_val (ro_fieldAddr EntLaw9_f27_2 rfl) ?_
                               refine st_val (ro_load EntLaw9_g3 rfl (by first | (first | exact (hP4.from_ (hB.next E154)).whole | exact (hP4.from_ (hB.next E154)).rd 0 rfl | exact (hP4.from_ (hB.next E154)).rd 1 rfl | exact (hP4.from_ (hB.next E154)).rd 2 rfl | exact (hP4.from_ (hB.next E154)).rd 3 rfl | exact (hP4.from_ (hB.next E154)).rd 4 rfl | exact (hP4.from_ (hB.next E154)).rd 5 rfl | exact (hP4.from_ (hB.next E154)).rd 6 rfl | exact (hP4.from_ (hB.next E154)).pre3 | exact (hP5.from_ (hB.next E154)).whole | exact (hP5.from_ (hB.next E154)).rd 0 rfl | exact (hP5.from_ (hB.next E154)).rd 1 rfl | exact (hP5.from_ (hB.next E154)).rd 2 rfl | exact (P4.from_ (From.rfl_.next E154)).whole | exact (P4.from_ (From.rfl_.next E154)).rd 0 rfl | exact (P4.from_ (From.rfl_.next E154)).rd 1 rfl | exact (P4.from_ (From.rfl_.next E154)).rd 2 rfl | exact (P4.from_ (From.rfl_.next E154)).rd 3 rfl | exact (P4.from_ (From.rfl_.next E154)).rd 4 rfl | exact (P4.from_ (From.rfl_.next E154)).rd 5 rfl | exact (P4.from_ (From.rfl_.next E154)).rd 6 rfl | exact (P4.from_ (From.rfl_.next E154)).pre3 | exact (P7.from_ (From.rfl_.next E154)).whole | exact (P7.from_ (From.rfl_.next E154)).rd 0 rfl | exact (P7.from_ (From.rfl_.next E154)).rd 1 rfl | exact (P7.from_ (From.rfl_.next E154)).rd 2 rfl))) ?_
                               refine st_call EntLaw9_k22 (refNewer_rt B T I M A1 c1 xs _ (hat.log.from_ (hB0.next (hB.next E154)))) ?_
                               rintro v165 w43 ⟨rfl, E165⟩
                               refine st_val (ro_assign (v := .bool _) rfl) ?_
                               refine st_nil ?_
                               refine nx_cut ((_, _, _)) ⟨(int_eq hck.symm), (by first | exact int_eq hap.symm | rfl), (by first | exact int_eq hcu.symm | rfl), (by first | exact int_eq hsl.symm | rfl), (by first | exact int_eq hco.symm | rfl), (by first | exact int_eq hte.symm | rfl), rfl, (int_eq hlI.symm), (int_eq hlT.symm), (by first | exact int_eq htv.symm | rfl), (congrArg Value.bool hnB.symm), trivial⟩ (by (iterate 109 refine agr_cons rfl ?_); exact agr_rfl) ?_
                               first | exact ⟨T14.from_ ((From.rfl_.next E154).next E165), T15.from_ ((From.rfl_.next E154).next E165), T16.from_ ((From.rfl_.next E154).next E165), ho17.kept_from ((From.rfl_.next E154).next E165), ((hB.next E154).next E165)⟩ | exact ⟨Told.zero hk14 (by rw [hap]; decide), Told.zero hk15 (by rw [hcu]; decide), Told.zero hk16 (by rw [hco]; decide), by rw [if_neg (by rw [hsl]; decide)]; exact World.ownsRow_nil _ _ _ _, ((hB.next E154).next E165)⟩
                  · (try first | replace Q20 := bn_t Q20 | replace Q20 := bn_f Q20)
                    (try first | replace Q20 := bx_t Q20 | replace Q20 := bx_f Q20 | replace Q20 := be_t Q20 | replace Q20 := be_f Q20 | replace Q20 := of_decide_eq_true Q20 | replace Q20 := of_decide_eq_false Q20)
                    have hm : ¬ mayLog B T xs = true := by rw [Q20]; decide
                    have hck : chk B T xs = 1 := if_neg hm
                    have hlI : lI B T xs = 0 := if_neg hm
                    have hlT : lT B T xs = 0 := if_neg hm
                    have hnB : nB B T xs I M = false := if_neg hm
                    have hap : apErr B T xs es = 1 := if_neg hm
                    have hcu : cutErr B T xs I = 1 := if_neg hm
                    have hsl : slErr B T xs I N = 1 := if_neg hm
                    have hco : coErr B T xs I = 1 := if_neg hm
                    have hte : teE B T xs I = 1 := if_neg hm
                    have htv : teV B T xs I = 0 := if_neg hm
                    first
                     | (exfalso; first | omega | contradiction | (cases Q20; done))
                     | skip
                       refine cd_skip ?_
                       refine nx_cut ((_, _, _)) ⟨(int_eq hck.symm), (by first | exact int_eq hap.symm | rfl), (by first | exact int_eq hcu.symm | rfl), (by first | exact int_eq hsl.symm | rfl), (by first | exact int_eq hco.symm | rfl), (by first | exact int_eq hte.symm | rfl), rfl, (int_eq hlI.symm), (int_eq hlT.symm), (by first | exact int_eq htv.symm | rfl), (congrArg Value.bool hnB.symm), trivial⟩ (by (iterate 1 refine agr_cons rfl ?_); exact agr_rfl) ?_
                       first | exact ⟨T14.from_ From.rfl_, T15.from_ From.rfl_, T16.from_ From.rfl_, ho17.kept_from From.rfl_, (((From.rfl_.next E14).next E15).next E16)⟩ | exact ⟨Told.zero hk14 (by rw [hap]; decide), Told.zero hk15 (by rw [hcu]; decide), Told.zero hk16 (by rw [hco]; decide), by rw [if_neg (by rw [hsl]; decide)]; exact World.ownsRow_nil _ _ _ _, (((From.rfl_.next E14).next E15).next E16)⟩
                · rintro ⟨A17, k17, c17⟩ ρ44 w44 ⟨⟨X14, Y14, A14, n14, c14, P14, L14⟩, ⟨X15, Y15, A15, n15, c15, P15, L15⟩, ⟨X16, Y16, A16, n16, c16, P16, L16⟩, ho17, hB⟩
                  refine cd_seq ?_
                  refine cd_seq ?_
                  refine cd_region ?_
                  refine st_val (ro_loadA (cs := [_, _, _]) EntLaw9_g25 EntLaw9_z25 rfl (by first | (first | exact (hP4.from_ hB).whole | exact (hP4.from_ hB).rd 0 rfl | exact (hP4.from_ hB).rd 1 rfl | exact (hP4.from_ hB).rd 2 rfl | exact (hP4.from_ hB).rd 3 rfl | exact (hP4.from_ hB).rd 4 rfl | exact (hP4.from_ hB).rd 5 rfl | exact (hP4.from_ hB).rd 6 rfl | exact (hP4.from_ hB).pre3 | exact (hP5.from_ hB).whole | exact (hP5.from_ hB).rd 0 rfl | exact (hP5.from_ hB).rd 1 rfl | exact (hP5.from_ hB).rd 2 rfl | exact (P4.from_ From.rfl_).whole | exact (P4.from_ From.rfl_).rd 0 rfl | exact (P4.from_ From.rfl_).rd 1 rfl | exact (P4.from_ From.rfl_).rd 2 rfl | exact (P4.from_ From.rfl_).rd 3 rfl | exact (P4.from_ From.rfl_).rd 4 rfl | exact (P4.from_ From.rfl_).rd 5 rfl | exact (P4.from_ From.rfl_).rd 6 rfl | exact (P4.from_ From.rfl_).pre3 | exact (P7.from_ From.rfl_).whole | exact (P7.from_ From.rfl_).rd 0 rfl | exact (P7.from_ From.rfl_).rd 1 rfl | exact (P7.from_ From.rfl_).rd 2 rfl))) ?_
                  refine st_call EntLaw9_k24 (Rt.of (check_any B T _ xs _ (hX.from_ hB))) ?_
                  rintro v167 w45 ⟨rfl, E167⟩
                  refine st_call EntLaw9_k23 (Rt.of (errnum_any _ _)) ?_
                  rintro v168 w46 ⟨rfl, rfl⟩
                  refine st_val (ro_move (v := .int _ _) rfl) ?_
                  refine st_val (ro_neq rfl rfl) ?_
                  refine st_nil ?_
                  refine nx_then ?_
                  refine cd_cond rfl (fun Q47 => ?_) (fun Q47 => ?_)
                  · (try first | replace Q47 := bn_t Q47 | replace Q47 := bn_f Q47)
                    (try first | replace Q47 := bx_t Q47 | replace Q47 := bx_f Q47 | replace Q47 := be_t Q47 | replace Q47 := be_f Q47 | replace Q47 := of_decide_eq_true Q47 | replace Q47 := of_decide_eq_false Q47)
                    first
                     | (exfalso; first | omega | contradiction | (cases Q47; done))
                     | skip
                       refine cd_seq ?_
                       refine cd_region ?_
                       refine st_val (ro_assign (v := .bool _) rfl) ?_
                       refine st_nil ?_
                       refine nx_then ?_
                       refine cd_ret ?_
                       refine rt_then ?_
                       refine rt_block ?_
                       refine rt_then ?_
                       refine rt_then ?_
                       refine rt_block ?_
                       refine rt_then ?_
                       refine res1 (v := .bool _) rfl rfl ?_
                       exact ⟨rfl, (hB.next E167)⟩
                  · (try first | replace Q47 := bn_t Q47 | replace Q47 := bn_f Q47)
                    (try first | replace Q47 := bx_t Q47 | replace Q47 := bx_f Q47 | replace Q47 := be_t Q47 | replace Q47 := be_f Q47 | replace Q47 := of_decide_eq_true Q47 | replace Q47 := of_decide_eq_false Q47)
                    first
                     | (exfalso; first | omega | contradiction | (cases Q47; done))
                     | skip
                       refine cd_skip ?_
                       refine nx_then ?_
                       refine cd_seq ?_
                       refine cd_region ?_
                       refine st_val (ro_loadA (cs := [_, _, _]) EntLaw9_g25 EntLaw9_z25 rfl (by first | (first | exact (hP4.from_ (hB.next E167)).whole | exact (hP4.from_ (hB.next E167)).rd 0 rfl | exact (hP4.from_ (hB.next E167)).rd 1 rfl | exact (hP4.from_ (hB.next E167)).rd 2 rfl | exact (hP4.from_ (hB.next E167)).rd 3 rfl | exact (hP4.from_ (hB.next E167)).rd 4 rfl | exact (hP4.from_ (hB.next E167)).rd 5 rfl | exact (hP4.from_ (hB.next E167)).rd 6 rfl | exact (hP4.from_ (hB.next E167)).pre3 | exact (hP5.from_ (hB.next E167)).whole | exact (hP5.from_ (hB.next E167)).rd 0 rfl | exact (hP5.from_ (hB.next E167)).rd 1 rfl | exact (hP5.from_ (hB.next E167)).rd 2 rfl | exact (P4.from_ (From.rfl_.next E167)).whole | exact (P4.from_ (From.rfl_.next E167)).rd 0 rfl | exact (P4.from_ (From.rfl_.next E167)).rd 1 rfl | exact (P4.from_ (From.rfl_.next E167)).rd 2 rfl | exact (P4.from_ (From.rfl_.next E167)).rd 3 rfl | exact (P4.from_ (From.rfl_.next E167)).rd 4 rfl | exact (P4.from_ (From.rfl_.next E167)).rd 5 rfl | exact (P4.from_ (From.rfl_.next E167)).rd 6 rfl | exact (P4.from_ (From.rfl_.next E167)).pre3 | exact (P7.from_ (From.rfl_.next E167)).whole | exact (P7.from_ (From.rfl_.next E167)).rd 0 rfl | exact (P7.from_ (From.rfl_.next E167)).rd 1 rfl | exact (P7.from_ (From.rfl_.next E167)).rd 2 rfl))) ?_
                       refine st_call EntLaw9_k25 (last_rt3 B T A5 _ c5 xs _ (hX.from_ (hB.next E167))) ?_
                       rintro v173 w48 ⟨rfl, E173⟩
                       refine st_val (ro_move (v := .tuple _) rfl) ?_
                       refine st_val (ro_extract rfl rfl) ?_
                       refine st_val (ro_extract rfl rfl) ?_
                       refine st_val (ro_extract rfl rfl) ?_
                       refine st_val (ro_assign (v := .int _ _) rfl) ?_
                       refine st_val (ro_assign (v := .int _ _) rfl) ?_
                       refine st_val (ro_assign (v := .int _ _) rfl) ?_
                       refine st_nil ?_
                       refine nx_then ?_
                       refine cd_seq ?_
                       refine cd_region ?_
                       refine st_val (ro_loadA (cs := [_, _, _]) EntLaw9_g25 EntLaw9_z25 rfl (by first | (first | exact (hP4.from_ ((hB.next E167).next E173)).whole | exact (hP4.from_ ((hB.next E167).next E173)).rd 0 rfl | exact (hP4.from_ ((hB.next E167).next E173)).rd 1 rfl | exact (hP4.from_ ((hB.next E167).next E173)).rd 2 rfl | exact (hP4.from_ ((hB.next E167).next E173)).rd 3 rfl | exact (hP4.from_ ((hB.next E167).next E173)).rd 4 rfl | exact (hP4.from_ ((hB.next E167).next E173)).rd 5 rfl | exact (hP4.from_ ((hB.next E167).next E173)).rd 6 rfl | exact (hP4.from_ ((hB.next E167).next E173)).pre3 | exact (hP5.from_ ((hB.next E167).next E173)).whole | exact (hP5.from_ ((hB.next E167).next E173)).rd 0 rfl | exact (hP5.from_ ((hB.next E167).next E173)).rd 1 rfl | exact (hP5.from_ ((hB.next E167).next E173)).rd 2 rfl | exact (P4.from_ ((From.rfl_.next E167).next E173)).whole | exact (P4.from_ ((From.rfl_.next E167).next E173)).rd 0 rfl | exact (P4.from_ ((From.rfl_.next E167).next E173)).rd 1 rfl | exact (P4.from_ ((From.rfl_.next E167).next E173)).rd 2 rfl | exact (P4.from_ ((From.rfl_.next E167).next E173)).rd 3 rfl | exact (P4.from_ ((From.rfl_.next E167).next E173)).rd 4 rfl | exact (P4.from_ ((From.rfl_.next E167).next E173)).rd 5 rfl | exact (P4.from_ ((From.rfl_.next E167).next E173)).rd 6 rfl | exact (P4.from_ ((From.rfl_.next E167).next E173)).pre3 | exact (P7.from_ ((From.rfl_.next E167).next E173)).whole | exact (P7.from_ ((From.rfl_.next E167).next E173)).rd 0 rfl | exact (P7.from_ ((From.rfl_.next E167).next E173)).rd 1 rfl | exact (P7.from_ ((From.rfl_.next E167).next E173)).rd 2 rfl))) ?_
                       refine st_val (ro_fieldAddr EntLaw9_f27_1 rfl) ?_
                       refine st_val (ro_load EntLaw9_g3 rfl (by first | (first | exact (hP4.from_ ((hB.next E167).next E173)).whole | exact (hP4.from_ ((hB.next E167).next E173)).rd 0 rfl | exact (hP4.from_ ((hB.next E167).next E173)).rd 1 rfl | exact (hP4.from_ ((hB.next E167).next E173)).rd 2 rfl | exact (hP4.from_ ((hB.next E167).next E173)).rd 3 rfl | exact (hP4.from_ ((hB.next E167).next E173)).rd 4 rfl | exact (hP4.from_ ((hB.next E167).next E173)).rd 5 rfl | exact (hP4.from_ ((hB.next E167).next E173)).rd 6 rfl | exact (hP4.from_ ((hB.next E167).next E173)).pre3 | exact (hP5.from_ ((hB.next E167).next E173)).whole | exact (hP5.from_ ((hB.next E167).next E173)).rd 0 rfl | exact (hP5.from_ ((hB.next E167).next E173)).rd 1 rfl | exact (hP5.from_ ((hB.next E167).next E173)).rd 2 rfl | exact (P4.from_ ((From.rfl_.next E167).next E173)).whole | exact (P4.from_ ((From.rfl_.next E167).next E173)).rd 0 rfl | exact (P4.from_ ((From.rfl_.next E167).next E173)).rd 1 rfl | exact (P4.from_ ((From.rfl_.next E167).next E173)).rd 2 rfl | exact (P4.from_ ((From.rfl_.next E167).next E173)).rd 3 rfl | exact (P4.from_ ((From.rfl_.next E167).next E173)).rd 4 rfl | exact (P4.from_ ((From.rfl_.next E167).next E173)).rd 5 rfl | exact (P4.from_ ((From.rfl_.next E167).next E173)).rd 6 rfl | exact (P4.from_ ((From.rfl_.next E167).next E173)).pre3 | exact (P7.from_ ((From.rfl_.next E167).next E173)).whole | exact (P7.from_ ((From.rfl_.next E167).next E173)).rd 0 rfl | exact (P7.from_ ((From.rfl_.next E167).next E173)).rd 1 rfl | exact (P7.from_ ((From.rfl_.next E167).next E173)).rd 2 rfl))) ?_
                       refine st_call EntLaw9_k26 (term_rt3 B T I A5 _ c5 xs _ (hX.from_ ((hB.next E167).next E173))) ?_
                       rintro v181 w49 ⟨rfl, E181⟩
                       refine st_val (ro_move (v := .tuple _) rfl) ?_
                       refine st_val (ro_extract rfl rfl) ?_
                       refine st_val (ro_extract rfl rfl) ?_
                       refine st_val (ro_assign (v := .int _ _) rfl) ?_
                       refine st_val (ro_assign (v := .int _ _) rfl) ?_
                       refine st_nil ?_
                       refine nx_then ?_
                       refine cd_seq ?_
                       refine cd_region ?_
                       refine st_val (ro_loadA (cs := [_, _, _]) EntLaw9_g25 EntLaw9_z25 rfl (by first | (first | exact (hP4.from_ (((hB.next E167).next E173).next E181)).whole | exact (hP4.from_ (((hB.next E167).next E173).next E181)).rd 0 rfl | exact (hP4.from_ (((hB.next E167).next E173).next E181)).rd 1 rfl | exact (hP4.from_ (((hB.next E167).next E173).next E181)).rd 2 rfl | exact (hP4.from_ (((hB.next E167).next E173).next E181)).rd 3 rfl | exact (hP4.from_ (((hB.next E167).next E173).next E181)).rd 4 rfl | exact (hP4.from_ (((hB.next E167).next E173).next E181)).rd 5 rfl | exact (hP4.from_ (((hB.next E167).next E173).next E181)).rd 6 rfl | exact (hP4.from_ (((hB.next E167).next E173).next E181)).pre3 | exact (hP5.from_ (((hB.next E167).next E173).next E181)).whole | exact (hP5.from_ (((hB.next E167).next E173).next E181)).rd 0 rfl | exact (hP5.from_ (((hB.next E167).next E173).next E181)).rd 1 rfl | exact (hP5.from_ (((hB.next E167).next E173).next E181)).rd 2 rfl | exact (P4.from_ (((From.rfl_.next E167).next E173).next E181)).whole | exact (P4.from_ (((From.rfl_.next E167).next E173).next E181)).rd 0 rfl | exact (P4.from_ (((From.rfl_.next E167).next E173).next E181)).rd 1 rfl | exact (P4.from_ (((From.rfl_.next E167).next E173).next E181)).rd 2 rfl | exact (P4.from_ (((From.rfl_.next E167).next E173).next E181)).rd 3 rfl | exact (P4.from_ (((From.rfl_.next E167).next E173).next E181)).rd 4 rfl | exact (P4.from_ (((From.rfl_.next E167).next E173).next E181)).rd 5 rfl | exact (P4.from_ (((From.rfl_.next E167).next E173).next E181)).rd 6 rfl | exact (P4.from_ (((From.rfl_.next E167).next E173).next E181)).pre3 | exact (P7.from_ (((From.rfl_.next E167).next E173).next E181)).whole | exact (P7.from_ (((From.rfl_.next E167).next E173).next E181)).rd 0 rfl | exact (P7.from_ (((From.rfl_.next E167).next E173).next E181)).rd 1 rfl | exact (P7.from_ (((From.rfl_.next E167).next E173).next E181)).rd 2 rfl))) ?_
                       refine st_val (ro_fieldAddr EntLaw9_f27_1 rfl) ?_
                       refine st_val (ro_load EntLaw9_g3 rfl (by first | (first | exact (hP4.from_ (((hB.next E167).next E173).next E181)).whole | exact (hP4.from_ (((hB.next E167).next E173).next E181)).rd 0 rfl | exact (hP4.from_ (((hB.next E167).next E173).next E181)).rd 1 rfl | exact (hP4.from_ (((hB.next E167).next E173).next E181)).rd 2 rfl | exact (hP4.from_ (((hB.next E167).next E173).next E181)).rd 3 rfl | exact (hP4.from_ (((hB.next E167).next E173).next E181)).rd 4 rfl | exact (hP4.from_ (((hB.next E167).next E173).next E181)).rd 5 rfl | exact (hP4.from_ (((hB.next E167).next E173).next E181)).rd 6 rfl | exact (hP4.from_ (((hB.next E167).next E173).next E181)).pre3 | exact (hP5.from_ (((hB.next E167).next E173).next E181)).whole | exact (hP5.from_ (((hB.next E167).next E173).next E181)).rd 0 rfl | exact (hP5.from_ (((hB.next E167).next E173).next E181)).rd 1 rfl | exact (hP5.from_ (((hB.next E167).next E173).next E181)).rd 2 rfl | exact (P4.from_ (((From.rfl_.next E167).next E173).next E181)).whole | exact (P4.from_ (((From.rfl_.next E167).next E173).next E181)).rd 0 rfl | exact (P4.from_ (((From.rfl_.next E167).next E173).next E181)).rd 1 rfl | exact (P4.from_ (((From.rfl_.next E167).next E173).next E181)).rd 2 rfl | exact (P4.from_ (((From.rfl_.next E167).next E173).next E181)).rd 3 rfl | exact (P4.from_ (((From.rfl_.next E167).next E173).next E181)).rd 4 rfl | exact (P4.from_ (((From.rfl_.next E167).next E173).next E181)).rd 5 rfl | exact (P4.from_ (((From.rfl_.next E167).next E173).next E181)).rd 6 rfl | exact (P4.from_ (((From.rfl_.next E167).next E173).next E181)).pre3 | exact (P7.from_ (((From.rfl_.next E167).next E173).next E181)).whole | exact (P7.from_ (((From.rfl_.next E167).next E173).next E181)).rd 0 rfl | exact (P7.from_ (((From.rfl_.next E167).next E173).next E181)).rd 1 rfl | exact (P7.from_ (((From.rfl_.next E167).next E173).next E181)).rd 2 rfl))) ?_
                       refine st_val (ro_fieldAddr EntLaw9_f27_2 rfl) ?_
                       refine st_val (ro_load EntLaw9_g3 rfl (by first | (first | exact (hP4.from_ (((hB.next E167).next E173).next E181)).whole | exact (hP4.from_ (((hB.next E167).next E173).next E181)).rd 0 rfl | exact (hP4.from_ (((hB.next E167).next E173).next E181)).rd 1 rfl | exact (hP4.from_ (((hB.next E167).next E173).next E181)).rd 2 rfl | exact (hP4.from_ (((hB.next E167).next E173).next E181)).rd 3 rfl | exact (hP4.from_ (((hB.next E167).next E173).next E181)).rd 4 rfl | exact (hP4.from_ (((hB.next E167).next E173).next E181)).rd 5 rfl | exact (hP4.from_ (((hB.next E167).next E173).next E181)).rd 6 rfl | exact (hP4.from_ (((hB.next E167).next E173).next E181)).pre3 | exact (hP5.from_ (((hB.next E167).next E173).next E181)).whole | exact (hP5.from_ (((hB.next E167).next E173).next E181)).rd 0 rfl | exact (hP5.from_ (((hB.next E167).next E173).next E181)).rd 1 rfl | exact (hP5.from_ (((hB.next E167).next E173).next E181)).rd 2 rfl | exact (P4.from_ (((From.rfl_.next E167).next E173).next E181)).whole | exact (P4.from_ (((From.rfl_.next E167).next E173).next E181)).rd 0 rfl | exact (P4.from_ (((From.rfl_.next E167).next E173).next E181)).rd 1 rfl | exact (P4.from_ (((From.rfl_.next E167).next E173).next E181)).rd 2 rfl | exact (P4.from_ (((From.rfl_.next E167).next E173).next E181)).rd 3 rfl | exact (P4.from_ (((From.rfl_.next E167).next E173).next E181)).rd 4 rfl | exact (P4.from_ (((From.rfl_.next E167).next E173).next E181)).rd 5 rfl | exact (P4.from_ (((From.rfl_.next E167).next E173).next E181)).rd 6 rfl | exact (P4.from_ (((From.rfl_.next E167).next E173).next E181)).pre3 | exact (P7.from_ (((From.rfl_.next E167).next E173).next E181)).whole | exact (P7.from_ (((From.rfl_.next E167).next E173).next E181)).rd 0 rfl | exact (P7.from_ (((From.rfl_.next E167).next E173).next E181)).rd 1 rfl | exact (P7.from_ (((From.rfl_.next E167).next E173).next E181)).rd 2 rfl))) ?_
                       refine st_call EntLaw9_k27 (newer_rt3 B T I M A5 c5 xs _ (hX.from_ (((hB.next E167).next E173).next E181))) ?_
                       rintro v190 w50 ⟨rfl, E190⟩
                       refine st_val (ro_move (v := .tuple _) rfl) ?_
                       refine st_val (ro_extract rfl rfl) ?_
                       refine st_val (ro_extract rfl rfl) ?_
                       refine st_val (ro_assign (v := .bool _) rfl) ?_
                       refine st_val (ro_assign (v := .int _ _) rfl) ?_
                       refine st_nil ?_
                       refine nx_then ?_
                       refine cd_seq ?_
                       refine cd_seq ?_
                       refine cd_region ?_
                       refine st_val (ro_move (v := .int _ _) rfl) ?_
                       refine st_call EntLaw9_k23 (Rt.of (errnum_any _ _)) ?_
                       rintro v194 w51 ⟨rfl, rfl⟩
                       refine st_val (ro_move (v := .int _ _) rfl) ?_
                       refine st_val (ro_neq rfl rfl) ?_
                       refine st_val (ro_move (v := .bool _) rfl) ?_
                       refine st_split (t := 197) rfl (fun Q52 => ?_) (fun Q52 => ?_)
                       · (try first | replace Q52 := bn_t Q52 | replace Q52 := bn_f Q52)
                         (try first | replace Q52 := bx_t Q52 | replace Q52 := bx_f Q52 | replace Q52 := be_t Q52 | replace Q52 := be_f Q52 | replace Q52 := of_decide_eq_true Q52 | replace Q52 := of_decide_eq_false Q52)
                         first
                          | (exfalso; first | omega | contradiction | (cases Q52; done))
                          | skip
                            refine st_gno rfl rfl ?_
                            refine st_gno rfl rfl ?_
                            refine st_gno rfl rfl ?_
                            refine st_val (ro_pickT (v := .bool _) rfl rfl) ?_
                            refine st_val (ro_move (v := .bool _) rfl) ?_
                            refine st_gno rfl rfl ?_
                            refine st_gno rfl rfl ?_
                            refine st_gno rfl rfl ?_
                            refine st_val (ro_pickT (v := .bool _) rfl rfl) ?_
                            refine st_val (ro_move (v := .bool _) rfl) ?_
                            refine st_gno rfl rfl ?_
                            refine st_gno rfl rfl ?_
                            refine st_gno rfl rfl ?_
                            refine st_gno rfl rfl ?_
                            refine st_val (ro_pickT (v := .bool _) rfl rfl) ?_
                            refine st_val (ro_move (v := .bool _) rfl) ?_
                            refine st_gno rfl rfl ?_
                            refine st_gno rfl rfl ?_
                            refine st_gno rfl rfl ?_
                            refine st_val (ro_pickT (v := .bool _) rfl rfl) ?_
                            refine st_val (ro_move (v := .bool _) rfl) ?_
                            refine st_gno rfl rfl ?_
                            refine st_gno rfl rfl ?_
                            refine st_gno rfl rfl ?_
                            refine st_gno rfl rfl ?_
                            refine st_val (ro_pickT (v := .bool _) rfl rfl) ?_
                            refine st_val (ro_move (v := .bool _) rfl) ?_
                            refine st_gno rfl rfl ?_
                            refine st_gno rfl rfl ?_
                            refine st_gno rfl rfl ?_
                            refine st_val (ro_pickT (v := .bool _) rfl rfl) ?_
                            refine st_nil ?_
                            refine nx_then ?_
                            refine cd_condT rfl ?_
                            refine cd_seq ?_
                            refine cd_region ?_
                            refine st_val (ro_assign (v := .bool _) rfl) ?_
                            refine st_nil ?_
                            refine nx_then ?_
                            refine cd_ret ?_
                            refine rt_then ?_
                            refine rt_block ?_
                            refine rt_then ?_
                            refine rt_then ?_
                            refine rt_block ?_
                            refine rt_then ?_
                            refine res1 (v := .bool _) rfl rfl ?_
                            exact ⟨rfl, ((((hB.next E167).next E173).next E181).next E190)⟩
                       · (try first | replace Q52 := bn_t Q52 | replace Q52 := bn_f Q52)
                         (try first | replace Q52 := bx_t Q52 | replace Q52 := bx_f Q52 | replace Q52 := be_t Q52 | replace Q52 := be_f Q52 | replace Q52 := of_decide_eq_true Q52 | replace Q52 := of_decide_eq_false Q52)
                         first
                          | (exfalso; first | omega | contradiction | (cases Q52; done))
                          | skip
                            refine st_unguard rfl ?_
                            refine st_val (ro_move (v := .int _ _) rfl) ?_
                            refine st_unguard rfl ?_
                            refine st_val (ro_move (v := .int _ _) rfl) ?_
                            refine st_unguard rfl ?_
                            refine st_val (ro_neq rfl rfl) ?_
                            refine st_val (ro_pickF (v := .bool _) rfl rfl) ?_
                            refine st_val (ro_move (v := .bool _) rfl) ?_
                            refine st_split (t := 202) rfl (fun Q53 => ?_) (fun Q53 => ?_)
                            · (try first | replace Q53 := bn_t Q53 | replace Q53 := bn_f Q53)
                              (try first | replace Q53 := bx_t Q53 | replace Q53 := bx_f Q53 | replace Q53 := be_t Q53 | replace Q53 := be_f Q53 | replace Q53 := of_decide_eq_true Q53 | replace Q53 := of_decide_eq_false Q53)
                              first
                               | (exfalso; first | omega | contradiction | (cases Q53; done))
                               | skip
                                 refine st_gno rfl rfl ?_
                                 refine st_gno rfl rfl ?_
                                 refine st_gno rfl rfl ?_
                                 refine st_val (ro_pickT (v := .bool _) rfl rfl) ?_
                                 refine st_val (ro_move (v := .bool _) rfl) ?_
                                 refine st_gno rfl rfl ?_
                                 refine st_gno rfl rfl ?_
                                 refine st_gno rfl rfl ?_
                                 refine st_gno rfl rfl ?_
                                 refine st_val (ro_pickT (v := .bool _) rfl rfl) ?_
                                 refine st_val (ro_move (v := .bool _) rfl) ?_
                                 refine st_gno rfl rfl ?_
                                 refine st_gno rfl rfl ?_
                                 refine st_gno rfl rfl ?_
                                 refine st_val (ro_pickT (v := .bool _) rfl rfl) ?_
                                 refine st_val (ro_move (v := .bool _) rfl) ?_
                                 refine st_gno rfl rfl ?_
                                 refine st_gno rfl rfl ?_
                                 refine st_gno rfl rfl ?_
                                 refine st_gno rfl rfl ?_
                                 refine st_val (ro_pickT (v := .bool _) rfl rfl) ?_
                                 refine st_val (ro_move (v := .bool _) rfl) ?_
                                 refine st_gno rfl rfl ?_
                                 refine st_gno rfl rfl ?_
                                 refine st_gno rfl rfl ?_
                                 refine st_val (ro_pickT (v := .bool _) rfl rfl) ?_
                                 refine st_nil ?_
                                 refine nx_then ?_
                                 refine cd_condT rfl ?_
                                 refine cd_seq ?_
                                 refine cd_region ?_
                                 refine st_val (ro_assign (v := .bool _) rfl) ?_
                                 refine st_nil ?_
                                 refine nx_then ?_
                                 refine cd_ret ?_
                                 refine rt_then ?_
                                 refine rt_block ?_
                                 refine rt_then ?_
                                 refine rt_then ?_
                                 refine rt_block ?_
                                 refine rt_then ?_
                                 refine res1 (v := .bool _) rfl rfl ?_
                                 exact ⟨rfl, ((((hB.next E167).next E173).next E181).next E190)⟩
                            · (try first | replace Q53 := bn_t Q53 | replace Q53 := bn_f Q53)
                              (try first | replace Q53 := bx_t Q53 | replace Q53 := bx_f Q53 | replace Q53 := be_t Q53 | replace Q53 := be_f Q53 | replace Q53 := of_decide_eq_true Q53 | replace Q53 := of_decide_eq_false Q53)
                              first
                               | (exfalso; first | omega | contradiction | (cases Q53; done))
                               | skip
                                 refine st_unguard rfl ?_
                                 refine st_val (ro_move (v := .int _ _) rfl) ?_
                                 refine st_unguard rfl ?_
                                 refine st_val (ro_move (v := .int _ _) rfl) ?_
                                 refine st_unguard rfl ?_
                                 refine st_val (ro_neq rfl rfl) ?_
                                 refine st_val (ro_pickF (v := .bool _) rfl rfl) ?_
                                 refine st_val (ro_move (v := .bool _) rfl) ?_
                                 refine st_split (t := 207) rfl (fun Q54 => ?_) (fun Q54 => ?_)
                                 · (try first | replace Q54 := bn_t Q54 | replace Q54 := bn_f Q54)
                                   (try first | replace Q54 := bx_t Q54 | replace Q54 := bx_f Q54 | replace Q54 := be_t Q54 | replace Q54 := be_f Q54 | replace Q54 := of_decide_eq_true Q54 | replace Q54 := of_decide_eq_false Q54)
                                   first
                                    | (exfalso; first | omega | contradiction | (cases Q54; done))
                                    | skip
                                      refine st_gno rfl rfl ?_
                                      refine st_gno rfl rfl ?_
                                      refine st_gno rfl rfl ?_
                                      refine st_gno rfl rfl ?_
                                      refine st_val (ro_pickT (v := .bool _) rfl rfl) ?_
                                      refine st_val (ro_move (v := .bool _) rfl) ?_
                                      refine st_gno rfl rfl ?_
                                      refine st_gno rfl rfl ?_
                                      refine st_gno rfl rfl ?_
                                      refine st_val (ro_pickT (v := .bool _) rfl rfl) ?_
                                      refine st_val (ro_move (v := .bool _) rfl) ?_
                                      refine st_gno rfl rfl ?_
                                      refine st_gno rfl rfl ?_
                                      refine st_gno rfl rfl ?_
                                      refine st_gno rfl rfl ?_
                                      refine st_val (ro_pickT (v := .bool _) rfl rfl) ?_
                                      refine st_val (ro_move (v := .bool _) rfl) ?_
                                      refine st_gno rfl rfl ?_
                                      refine st_gno rfl rfl ?_
                                      refine st_gno rfl rfl ?_
                                      refine st_val (ro_pickT (v := .bool _) rfl rfl) ?_
                                      refine st_nil ?_
                                      refine nx_then ?_
                                      refine cd_condT rfl ?_
                                      refine cd_seq ?_
                                      refine cd_region ?_
                                      refine st_val (ro_assign (v := .bool _) rfl) ?_
                                      refine st_nil ?_
                                      refine nx_then ?_
                                      refine cd_ret ?_
                                      refine rt_then ?_
                                      refine rt_block ?_
                                      refine rt_then ?_
                                      refine rt_then ?_
                                      refine rt_block ?_
                                      refine rt_then ?_
                                      refine res1 (v := .bool _) rfl rfl ?_
                                      exact ⟨rfl, ((((hB.next E167).next E173).next E181).next E190)⟩
                                 · (try first | replace Q54 := bn_t Q54 | replace Q54 := bn_f Q54)
                                   (try first | replace Q54 := bx_t Q54 | replace Q54 := bx_f Q54 | replace Q54 := be_t Q54 | replace Q54 := be_f Q54 | replace Q54 := of_decide_eq_true Q54 | replace Q54 := of_decide_eq_false Q54)
                                   first
                                    | (exfalso; first | omega | contradiction | (cases Q54; done))
                                    | skip
                                      refine st_unguard rfl ?_
                                      refine st_val (ro_move (v := .int _ _) rfl) ?_
                                      refine st_unguard rfl ?_
                                      refine st_call EntLaw9_k23 (Rt.of (errnum_any _ _)) ?_
                                      rintro v209 w55 ⟨rfl, rfl⟩
                                      refine st_unguard rfl ?_
                                      refine st_val (ro_move (v := .int _ _) rfl) ?_
                                      refine st_unguard rfl ?_
                                      refine st_val (ro_neq rfl rfl) ?_
                                      refine st_val (ro_pickF (v := .bool _) rfl rfl) ?_
                                      refine st_val (ro_move (v := .bool _) rfl) ?_
                                      refine st_split (t := 213) rfl (fun Q56 => ?_) (fun Q56 => ?_)
                                      · (try first | replace Q56 := bn_t Q56 | replace Q56 := bn_f Q56)
                                        (try first | replace Q56 := bx_t Q56 | replace Q56 := bx_f Q56 | replace Q56 := be_t Q56 | replace Q56 := be_f Q56 | replace Q56 := of_decide_eq_true Q56 | replace Q56 := of_decide_eq_false Q56)
                                        first
                                         | (exfalso; first | omega | contradiction | (cases Q56; done))
                                         | skip
                                           refine st_gno rfl rfl ?_
                                           refine st_gno rfl rfl ?_
                                           refine st_gno rfl rfl ?_
                                           refine st_val (ro_pickT (v := .bool _) rfl rfl) ?_
                                           refine st_val (ro_move (v := .bool _) rfl) ?_
                                           refine st_gno rfl rfl ?_
                                           refine st_gno rfl rfl ?_
                                           refine st_gno rfl rfl ?_
                                           refine st_gno rfl rfl ?_
                                           refine st_val (ro_pickT (v := .bool _) rfl rfl) ?_
                                           refine st_val (ro_move (v := .bool _) rfl) ?_
                                           refine st_gno rfl rfl ?_
                                           refine st_gno rfl rfl ?_
                                           refine st_gno rfl rfl ?_
                                           refine st_val (ro_pickT (v := .bool _) rfl rfl) ?_
                                           refine st_nil ?_
                                           refine nx_then ?_
                                           refine cd_condT rfl ?_
                                           refine cd_seq ?_
                                           refine cd_region ?_
                                           refine st_val (ro_assign (v := .bool _) rfl) ?_
                                           refine st_nil ?_
                                           refine nx_then ?_
                                           refine cd_ret ?_
                                           refine rt_then ?_
                                           refine rt_block ?_
                                           refine rt_then ?_
                                           refine rt_then ?_
                                           refine rt_block ?_
                                           refine rt_then ?_
                                           refine res1 (v := .bool _) rfl rfl ?_
                                           exact ⟨rfl, ((((hB.next E167).next E173).next E181).next E190)⟩
                                      · (try first | replace Q56 := bn_t Q56 | replace Q56 := bn_f Q56)
                                        (try first | replace Q56 := bx_t Q56 | replace Q56 := bx_f Q56 | replace Q56 := be_t Q56 | replace Q56 := be_f Q56 | replace Q56 := of_decide_eq_true Q56 | replace Q56 := of_decide_eq_false Q56)
                                        first
                                         | (exfalso; first | omega | contradiction | (cases Q56; done))
                                         | skip
                                           refine st_unguard rfl ?_
                                           refine st_val (ro_move (v := .int _ _) rfl) ?_
                                           refine st_unguard rfl ?_
                                           refine st_val (ro_move (v := .int _ _) rfl) ?_
                                           refine st_unguard rfl ?_
                                           refine st_val (ro_neq rfl rfl) ?_
                                           refine st_val (ro_pickF (v := .bool _) rfl rfl) ?_
                                           refine st_val (ro_move (v := .bool _) rfl) ?_
                                           refine st_split (t := 218) rfl (fun Q57 => ?_) (fun Q57 => ?_)
                                           · (try first | replace Q57 := bn_t Q57 | replace Q57 := bn_f Q57)
                                             (try first | replace Q57 := bx_t Q57 | replace Q57 := bx_f Q57 | replace Q57 := be_t Q57 | replace Q57 := be_f Q57 | replace Q57 := of_decide_eq_true Q57 | replace Q57 := of_decide_eq_false Q57)
                                             first
                                              | (exfalso; first | omega | contradiction | (cases Q57; done))
                                              | skip
                                                refine st_gno rfl rfl ?_
                                                refine st_gno rfl rfl ?_
                                                refine st_gno rfl rfl ?_
                                                refine st_gno rfl rfl ?_
                                                refine st_val (ro_pickT (v := .bool _) rfl rfl) ?_
                                                refine st_val (ro_move (v := .bool _) rfl) ?_
                                                refine st_gno rfl rfl ?_
                                                refine st_gno rfl rfl ?_
                                                refine st_gno rfl rfl ?_
                                                refine st_val (ro_pickT (v := .bool _) rfl rfl) ?_
                                                refine st_nil ?_
                                                refine nx_then ?_
                                                refine cd_condT rfl ?_
                                                refine cd_seq ?_
                                                refine cd_region ?_
                                                refine st_val (ro_assign (v := .bool _) rfl) ?_
                                                refine st_nil ?_
                                                refine nx_then ?_
                                                refine cd_ret ?_
                                                refine rt_then ?_
                                                refine rt_block ?_
                                                refine rt_then ?_
                                                refine rt_then ?_
                                                refine rt_block ?_
                                                refine rt_then ?_
                                                refine res1 (v := .bool _) rfl rfl ?_
                                                exact ⟨rfl, ((((hB.next E167).next E173).next E181).next E190)⟩
                                           · (try first | replace Q57 := bn_t Q57 | replace Q57 := bn_f Q57)
                                             (try first | replace Q57 := bx_t Q57 | replace Q57 := bx_f Q57 | replace Q57 := be_t Q57 | replace Q57 := be_f Q57 | replace Q57 := of_decide_eq_true Q57 | replace Q57 := of_decide_eq_false Q57)
                                             first
                                              | (exfalso; first | omega | contradiction | (cases Q57; done))
                                              | skip
                                                refine st_unguard rfl ?_
                                                refine st_val (ro_move (v := .int _ _) rfl) ?_
                                                refine st_unguard rfl ?_
                                                refine st_call EntLaw9_k23 (Rt.of (errnum_any _ _)) ?_
                                                rintro v220 w58 ⟨rfl, rfl⟩
                                                refine st_unguard rfl ?_
                                                refine st_val (ro_move (v := .int _ _) rfl) ?_
                                                refine st_unguard rfl ?_
                                                refine st_val (ro_neq rfl rfl) ?_
                                                refine st_val (ro_pickF (v := .bool _) rfl rfl) ?_
                                                refine st_val (ro_move (v := .bool _) rfl) ?_
                                                refine st_split (t := 224) rfl (fun Q59 => ?_) (fun Q59 => ?_)
                                                · (try first | replace Q59 := bn_t Q59 | replace Q59 := bn_f Q59)
                                                  (try first | replace Q59 := bx_t Q59 | replace Q59 := bx_f Q59 | replace Q59 := be_t Q59 | replace Q59 := be_f Q59 | replace Q59 := of_decide_eq_true Q59 | replace Q59 := of_decide_eq_false Q59)
                                                  first
                                                   | (exfalso; first | omega | contradiction | (cases Q59; done))
                                                   | skip
                                                     refine st_gno rfl rfl ?_
                                                     refine st_gno rfl rfl ?_
                                                     refine st_gno rfl rfl ?_
                                                     refine st_val (ro_pickT (v := .bool _) rfl rfl) ?_
                                                     refine st_nil ?_
                                                     refine nx_then ?_
                                                     refine cd_condT rfl ?_
                                                     refine cd_seq ?_
                                                     refine cd_region ?_
                                                     refine st_val (ro_assign (v := .bool _) rfl) ?_
                                                     refine st_nil ?_
                                                     refine nx_then ?_
                                                     refine cd_ret ?_
                                                     refine rt_then ?_
                                                     refine rt_block ?_
                                                     refine rt_then ?_
                                                     refine rt_then ?_
                                                     refine rt_block ?_
                                                     refine rt_then ?_
                                                     refine res1 (v := .bool _) rfl rfl ?_
                                                     exact ⟨rfl, ((((hB.next E167).next E173).next E181).next E190)⟩
                                                · (try first | replace Q59 := bn_t Q59 | replace Q59 := bn_f Q59)
                                                  (try first | replace Q59 := bx_t Q59 | replace Q59 := bx_f Q59 | replace Q59 := be_t Q59 | replace Q59 := be_f Q59 | replace Q59 := of_decide_eq_true Q59 | replace Q59 := of_decide_eq_false Q59)
                                                  first
                                                   | (exfalso; first | omega | contradiction | (cases Q59; done))
                                                   | skip
                                                     refine st_unguard rfl ?_
                                                     refine st_val (ro_move (v := .bool _) rfl) ?_
                                                     refine st_unguard rfl ?_
                                                     refine st_val (ro_move (v := .bool _) rfl) ?_
                                                     refine st_unguard rfl ?_
                                                     refine st_val (ro_neqB (by kernel_rfl) rfl rfl) ?_
                                                     refine st_val (ro_pickF (v := .bool _) rfl rfl) ?_
                                                     refine st_nil ?_
                                                     refine nx_then ?_
                                                     refine cd_cond rfl (fun Q60 => ?_) (fun Q60 => ?_)
                                                     · (try first | replace Q60 := bn_t Q60 | replace Q60 := bn_f Q60)
                                                       (try first | replace Q60 := bx_t Q60 | replace Q60 := bx_f Q60 | replace Q60 := be_t Q60 | replace Q60 := be_f Q60 | replace Q60 := of_decide_eq_true Q60 | replace Q60 := of_decide_eq_false Q60)
                                                       first
                                                        | (exfalso; first | omega | contradiction | (cases Q60; done))
                                                        | skip
                                                          refine cd_seq ?_
                                                          refine cd_region ?_
                                                          refine st_val (ro_assign (v := .bool _) rfl) ?_
                                                          refine st_nil ?_
                                                          refine nx_then ?_
                                                          refine cd_ret ?_
                                                          refine rt_then ?_
                                                          refine rt_block ?_
                                                          refine rt_then ?_
                                                          refine rt_then ?_
                                                          refine rt_block ?_
                                                          refine rt_then ?_
                                                          refine res1 (v := .bool _) rfl rfl ?_
                                                          exact ⟨rfl, ((((hB.next E167).next E173).next E181).next E190)⟩
                                                     · (try first | replace Q60 := bn_t Q60 | replace Q60 := bn_f Q60)
                                                       (try first | replace Q60 := bx_t Q60 | replace Q60 := bx_f Q60 | replace Q60 := be_t Q60 | replace Q60 := be_f Q60 | replace Q60 := of_decide_eq_true Q60 | replace Q60 := of_decide_eq_false Q60)
                                                       first
                                                        | (exfalso; first | omega | contradiction | (cases Q60; done))
                                                        | skip
                                                          refine cd_skip ?_
                                                          refine nx_then ?_
                                                          refine cd_seq ?_
                                                          refine cd_region ?_
                                                          refine st_val (ro_loadA (cs := [_, _, _]) EntLaw9_g25 EntLaw9_z25 rfl (by first | (first | exact (hP4.from_ ((((hB.next E167).next E173).next E181).next E190)).whole | exact (hP4.from_ ((((hB.next E167).next E173).next E181).next E190)).rd 0 rfl | exact (hP4.from_ ((((hB.next E167).next E173).next E181).next E190)).rd 1 rfl | exact (hP4.from_ ((((hB.next E167).next E173).next E181).next E190)).rd 2 rfl | exact (hP4.from_ ((((hB.next E167).next E173).next E181).next E190)).rd 3 rfl | exact (hP4.from_ ((((hB.next E167).next E173).next E181).next E190)).rd 4 rfl | exact (hP4.from_ ((((hB.next E167).next E173).next E181).next E190)).rd 5 rfl | exact (hP4.from_ ((((hB.next E167).next E173).next E181).next E190)).rd 6 rfl | exact (hP4.from_ ((((hB.next E167).next E173).next E181).next E190)).pre3 | exact (hP5.from_ ((((hB.next E167).next E173).next E181).next E190)).whole | exact (hP5.from_ ((((hB.next E167).next E173).next E181).next E190)).rd 0 rfl | exact (hP5.from_ ((((hB.next E167).next E173).next E181).next E190)).rd 1 rfl | exact (hP5.from_ ((((hB.next E167).next E173).next E181).next E190)).rd 2 rfl | exact (P4.from_ ((((From.rfl_.next E167).next E173).next E181).next E190)).whole | exact (P4.from_ ((((From.rfl_.next E167).next E173).next E181).next E190)).rd 0 rfl | exact (P4.from_ ((((From.rfl_.next E167).next E173).next E181).next E190)).rd 1 rfl | exact (P4.from_ ((((From.rfl_.next E167).next E173).next E181).next E190)).rd 2 rfl | exact (P4.from_ ((((From.rfl_.next E167).next E173).next E181).next E190)).rd 3 rfl | exact (P4.from_ ((((From.rfl_.next E167).next E173).next E181).next E190)).rd 4 rfl | exact (P4.from_ ((((From.rfl_.next E167).next E173).next E181).next E190)).rd 5 rfl | exact (P4.from_ ((((From.rfl_.next E167).next E173).next E181).next E190)).rd 6 rfl | exact (P4.from_ ((((From.rfl_.next E167).next E173).next E181).next E190)).pre3 | exact (P7.from_ ((((From.rfl_.next E167).next E173).next E181).next E190)).whole | exact (P7.from_ ((((From.rfl_.next E167).next E173).next E181).next E190)).rd 0 rfl | exact (P7.from_ ((((From.rfl_.next E167).next E173).next E181).next E190)).rd 1 rfl | exact (P7.from_ ((((From.rfl_.next E167).next E173).next E181).next E190)).rd 2 rfl))) ?_
                                                          refine st_val (ro_move (v := .slice _ _ _) rfl) ?_
                                                          have hz232 := (((((hB.next E167).next E173).next E181).next E190)).size
                                                          refine st_call EntLaw9_k28 (append_rt B T A5 A6 _ c5 _ c6 xs es _ (hX.from_ ((((hB.next E167).next E173).next E181).next E190)) (hS.from_ ((((hB.next E167).next E173).next E181).next E190)) (by omega)) ?_
                                                          rintro v232 w61 ⟨X31, Y31, A31, n31, c31, rfl, hu, E232⟩
                                                          refine st_val (ro_move (v := .tuple _) rfl) ?_
                                                          refine st_val (ro_extract rfl rfl) ?_
                                                          refine st_val (ro_extract rfl rfl) ?_
                                                          refine st_alloc EntLaw9_o25 ?_
                                                          intro b31 w62 E31 hb31 hk31
                                                          have hg31 : s0 ≤ b31 := by rw [hs0, hb31]; exact ((((((hB.next E167).next E173).next E181).next E190).next E232)).size
                                                          refine st_putW (vs := [_, _, _]) EntLaw9_z25 rfl rfl (by simp [Value.oneCell']) (hk31) rfl ?_
                                                          intro w63 O40 P40
                                                          have z1 := E167.size
                                                          have z2 := E173.size
                                                          have z3 := E181.size
                                                          have z4 := E190.size
                                                          have z5 := E232.size
                                                          have z6 := E31.size
                                                          have z7 := O40.size
                                                          have F40 := ((((((From.rfl_.next E167).next E173).next E181).next E190).next E232).next E31).only O40 (by omega)
                                                          replace P14 := P14.from_ F40
                                                          replace L14 := L14.from_ F40
                                                          replace P15 := P15.from_ F40
                                                          replace L15 := L15.from_ F40
                                                          replace P16 := P16.from_ F40
                                                          replace L16 := L16.from_ F40
                                                          replace ho17 := ho17.kept_from F40
                                                          replace hu := hu.from_ ((From.rfl_.next E31).only O40 (by omega))
                                                          refine st_val (ro_assign (v := .int _ _) rfl) ?_
                                                          refine st_nil ?_
                                                          refine nx_then ?_
                                                          refine cd_seq ?_
                                                          refine cd_region ?_
                                                          refine st_val (ro_loadA (cs := [_, _, _]) EntLaw9_g25 EntLaw9_z25 rfl (by first | (first | exact (hP4.from_ (((((((hB.next E167).next E173).next E181).next E190).next E232).next E31).only O40 (hge hg31))).whole | exact (hP4.from_ (((((((hB.next E167).next E173).next E181).next E190).next E232).next E31).only O40 (hge hg31))).rd 0 rfl | exact (hP4.from_ (((((((hB.next E167).next E173).next E181).next E190).next E232).next E31).only O40 (hge hg31))).rd 1 rfl | exact (hP4.from_ (((((((hB.next E167).next E173).next E181).next E190).next E232).next E31).only O40 (hge hg31))).rd 2 rfl | exact (hP4.from_ (((((((hB.next E167).next E173).next E181).next E190).next E232).next E31).only O40 (hge hg31))).rd 3 rfl | exact (hP4.from_ (((((((hB.next E167).next E173).next E181).next E190).next E232).next E31).only O40 (hge hg31))).rd 4 rfl | exact (hP4.from_ (((((((hB.next E167).next E173).next E181).next E190).next E232).next E31).only O40 (hge hg31))).rd 5 rfl | exact (hP4.from_ (((((((hB.next E167).next E173).next E181).next E190).next E232).next E31).only O40 (hge hg31))).rd 6 rfl | exact (hP4.from_ (((((((hB.next E167).next E173).next E181).next E190).next E232).next E31).only O40 (hge hg31))).pre3 | exact (hP5.from_ (((((((hB.next E167).next E173).next E181).next E190).next E232).next E31).only O40 (hge hg31))).whole | exact (hP5.from_ (((((((hB.next E167).next E173).next E181).next E190).next E232).next E31).only O40 (hge hg31))).rd 0 rfl | exact (hP5.from_ (((((((hB.next E167).next E173).next E181).next E190).next E232).next E31).only O40 (hge hg31))).rd 1 rfl | exact (hP5.from_ (((((((hB.next E167).next E173).next E181).next E190).next E232).next E31).only O40 (hge hg31))).rd 2 rfl | exact (P4.from_ From.rfl_).whole | exact (P4.from_ From.rfl_).rd 0 rfl | exact (P4.from_ From.rfl_).rd 1 rfl | exact (P4.from_ From.rfl_).rd 2 rfl | exact (P4.from_ From.rfl_).rd 3 rfl | exact (P4.from_ From.rfl_).rd 4 rfl | exact (P4.from_ From.rfl_).rd 5 rfl | exact (P4.from_ From.rfl_).rd 6 rfl | exact (P4.from_ From.rfl_).pre3 | exact (P7.from_ From.rfl_).whole | exact (P7.from_ From.rfl_).rd 0 rfl | exact (P7.from_ From.rfl_).rd 1 rfl | exact (P7.from_ From.rfl_).rd 2 rfl))) ?_
                                                          refine st_val (ro_fieldAddr EntLaw9_f27_1 rfl) ?_
                                                          refine st_val (ro_load EntLaw9_g3 rfl (by first | (first | exact (hP4.from_ (((((((hB.next E167).next E173).next E181).next E190).next E232).next E31).only O40 (hge hg31))).whole | exact (hP4.from_ (((((((hB.next E167).next E173).next E181).next E190).next E232).next E31).only O40 (hge hg31))).rd 0 rfl | exact (hP4.from_ (((((((hB.next E167).next E173).next E181).next E190).next E232).next E31).only O40 (hge hg31))).rd 1 rfl | exact (hP4.from_ (((((((hB.next E167).next E173).next E181).next E190).next E232).next E31).only O40 (hge hg31))).rd 2 rfl | exact (hP4.from_ (((((((hB.next E167).next E173).next E181).next E190).next E232).next E31).only O40 (hge hg31))).rd 3 rfl | exact (hP4.from_ (((((((hB.next E167).next E173).next E181).next E190).next E232).next E31).only O40 (hge hg31))).rd 4 rfl | exact (hP4.from_ (((((((hB.next E167).next E173).next E181).next E190).next E232).next E31).only O40 (hge hg31))).rd 5 rfl | exact (hP4.from_ (((((((hB.next E167).next E173).next E181).next E190).next E232).next E31).only O40 (hge hg31))).rd 6 rfl | exact (hP4.from_ (((((((hB.next E167).next E173).next E181).next E190).next E232).next E31).only O40 (hge hg31))).pre3 | exact (hP5.from_ (((((((hB.next E167).next E173).next E181).next E190).next E232).next E31).only O40 (hge hg31))).whole | exact (hP5.from_ (((((((hB.next E167).next E173).next E181).next E190).next E232).next E31).only O40 (hge hg31))).rd 0 rfl | exact (hP5.from_ (((((((hB.next E167).next E173).next E181).next E190).next E232).next E31).only O40 (hge hg31))).rd 1 rfl | exact (hP5.from_ (((((((hB.next E167).next E173).next E181).next E190).next E232).next E31).only O40 (hge hg31))).rd 2 rfl | exact (P4.from_ From.rfl_).whole | exact (P4.from_ From.rfl_).rd 0 rfl | exact (P4.from_ From.rfl_).rd 1 rfl | exact (P4.from_ From.rfl_).rd 2 rfl | exact (P4.from_ From.rfl_).rd 3 rfl | exact (P4.from_ From.rfl_).rd 4 rfl | exact (P4.from_ From.rfl_).rd 5 rfl | exact (P4.from_ From.rfl_).rd 6 rfl | exact (P4.from_ From.rfl_).pre3 | exact (P7.from_ From.rfl_).whole | exact (P7.from_ From.rfl_).rd 0 rfl | exact (P7.from_ From.rfl_).rd 1 rfl | exact (P7.from_ From.rfl_).rd 2 rfl))) ?_
                                                          have hz239 := ((((((((hB.next E167).next E173).next E181).next E190).next E232).next E31).only O40 (hge hg31))).size
                                                          have hku := own_lt ((hu.le hz232).from_ From.rfl_).own
                                                          refine st_call EntLaw9_k29 (cut_rt B T I A5 _ c5 xs _ (hX.from_ (((((((hB.next E167).next E173).next E181).next E190).next E232).next E31).only O40 (hge hg31)))) ?_
                                                          rintro v239 w64 ⟨X32, Y32, A32, n32, c32, rfl, hv, E239⟩
                                                          refine st_val (ro_move (v := .tuple _) rfl) ?_
                                                          refine st_val (ro_extract rfl rfl) ?_
                                                          refine st_val (ro_extract rfl rfl) ?_
                                                          refine st_alloc EntLaw9_o25 ?_
                                                          intro b32 w65 E32 hb32 hk32
                                                          have hg32 : s0 ≤ b32 := by rw [hs0, hb32]; exact (((((((((hB.next E167).next E173).next E181).next E190).next E232).next E31).only O40 (hge hg31)).next E239)).size
                                                          refine st_putW (vs := [_, _, _]) EntLaw9_z25 rfl rfl (by simp [Value.oneCell']) (hk32) rfl ?_
                                                          intro w66 O41 P41
                                                          have z8 := E239.size
                                                          have z9 := E32.size
                                                          have z10 := O41.size
                                                          have F41 := ((From.rfl_.next E239).next E32).only O41 (by omega)
                                                          replace P14 := P14.from_ F41
                                                          replace L14 := L14.from_ F41
                                                          replace P15 := P15.from_ F41
                                                          replace L15 := L15.from_ F41
                                                          replace P16 := P16.from_ F41
                                                          replace L16 := L16.from_ F41
                                                          replace hu := hu.from_ F41
                                                          replace P40 := P40.from_ F41
                                                          replace ho17 := ho17.kept_from F41
                                                          replace hv := hv.from_ ((From.rfl_.next E32).only O41 (by omega))
                                                          refine st_val (ro_assign (v := .int _ _) rfl) ?_
                                                          refine st_nil ?_
                                                          refine nx_then ?_
                                                          refine cd_seq ?_
                                                          refine cd_region ?_
                                                          refine st_val (ro_loadA (cs := [_, _, _]) EntLaw9_g25 EntLaw9_z25 rfl (by first | (first | exact (hP4.from_ ((((((((((hB.next E167).next E173).next E181).next E190).next E232).next E31).only O40 (hge hg31)).next E239).next E32).only O41 (hge hg32))).whole | exact (hP4.from_ ((((((((((hB.next E167).next E173).next E181).next E190).next E232).next E31).only O40 (hge hg31)).next E239).next E32).only O41 (hge hg32))).rd 0 rfl | exact (hP4.from_ ((((((((((hB.next E167).next E173).next E181).next E190).next E232).next E31).only O40 (hge hg31)).next E239).next E32).only O41 (hge hg32))).rd 1 rfl | exact (hP4.from_ ((((((((((hB.next E167).next E173).next E181).next E190).next E232).next E31).only O40 (hge hg31)).next E239).next E32).only O41 (hge hg32))).rd 2 rfl | exact (hP4.from_ ((((((((((hB.next E167).next E173).next E181).next E190).next E232).next E31).only O40 (hge hg31)).next E239).next E32).only O41 (hge hg32))).rd 3 rfl | exact (hP4.from_ ((((((((((hB.next E167).next E173).next E181).next E190).next E232).next E31).only O40 (hge hg31)).next E239).next E32).only O41 (hge hg32))).rd 4 rfl | exact (hP4.from_ ((((((((((hB.next E167).next E173).next E181).next E190).next E232).next E31).only O40 (hge hg31)).next E239).next E32).only O41 (hge hg32))).rd 5 rfl | exact (hP4.from_ ((((((((((hB.next E167).next E173).next E181).next E190).next E232).next E31).only O40 (hge hg31)).next E239).next E32).only O41 (hge hg32))).rd 6 rfl | exact (hP4.from_ ((((((((((hB.next E167).next E173).next E181).next E190).next E232).next E31).only O40 (hge hg31)).next E239).next E32).only O41 (hge hg32))).pre3 | exact (hP5.from_ ((((((((((hB.next E167).next E173).next E181).next E190).next E232).next E31).only O40 (hge hg31)).next E239).next E32).only O41 (hge hg32))).whole | exact (hP5.from_ ((((((((((hB.next E167).next E173).next E181).next E190).next E232).next E31).only O40 (hge hg31)).next E239).next E32).only O41 (hge hg32))).rd 0 rfl | exact (hP5.from_ ((((((((((hB.next E167).next E173).next E181).next E190).next E232).next E31).only O40 (hge hg31)).next E239).next E32).only O41 (hge hg32))).rd 1 rfl | exact (hP5.from_ ((((((((((hB.next E167).next E173).next E181).next E190).next E232).next E31).only O40 (hge hg31)).next E239).next E32).only O41 (hge hg32))).rd 2 rfl | exact (P4.from_ From.rfl_).whole | exact (P4.from_ From.rfl_).rd 0 rfl | exact (P4.from_ From.rfl_).rd 1 rfl | exact (P4.from_ From.rfl_).rd 2 rfl | exact (P4.from_ From.rfl_).rd 3 rfl | exact (P4.from_ From.rfl_).rd 4 rfl | exact (P4.from_ From.rfl_).rd 5 rfl | exact (P4.from_ From.rfl_).rd 6 rfl | exact (P4.from_ From.rfl_).pre3 | exact (P7.from_ From.rfl_).whole | exact (P7.from_ From.rfl_).rd 0 rfl | exact (P7.from_ From.rfl_).rd 1 rfl | exact (P7.from_ From.rfl_).rd 2 rfl))) ?_
                                                          refine st_val (ro_fieldAddr EntLaw9_f27_1 rfl) ?_
                                                          refine st_val (ro_load EntLaw9_g3 rfl (by first | (first | exact (hP4.from_ ((((((((((hB.next E167).next E173).next E181).next E190).next E232).next E31).only O40 (hge hg31)).next E239).next E32).only O41 (hge hg32))).whole | exact (hP4.from_ ((((((((((hB.next E167).next E173).next E181).next E190).next E232).next E31).only O40 (hge hg31)).next E239).next E32).only O41 (hge hg32))).rd 0 rfl | exact (hP4.from_ ((((((((((hB.next E167).next E173).next E181).next E190).next E232).next E31).only O40 (hge hg31)).next E239).next E32).only O41 (hge hg32))).rd 1 rfl | exact (hP4.from_ ((((((((((hB.next E167).next E173).next E181).next E190).next E232).next E31).only O40 (hge hg31)).next E239).next E32).only O41 (hge hg32))).rd 2 rfl | exact (hP4.from_ ((((((((((hB.next E167).next E173).next E181).next E190).next E232).next E31).only O40 (hge hg31)).next E239).next E32).only O41 (hge hg32))).rd 3 rfl | exact (hP4.from_ ((((((((((hB.next E167).next E173).next E181).next E190).next E232).next E31).only O40 (hge hg31)).next E239).next E32).only O41 (hge hg32))).rd 4 rfl | exact (hP4.from_ ((((((((((hB.next E167).next E173).next E181).next E190).next E232).next E31).only O40 (hge hg31)).next E239).next E32).only O41 (hge hg32))).rd 5 rfl | exact (hP4.from_ ((((((((((hB.next E167).next E173).next E181).next E190).next E232).next E31).only O40 (hge hg31)).next E239).next E32).only O41 (hge hg32))).rd 6 rfl | exact (hP4.from_ ((((((((((hB.next E167).next E173).next E181).next E190).next E232).next E31).only O40 (hge hg31)).next E239).next E32).only O41 (hge hg32))).pre3 | exact (hP5.from_ ((((((((((hB.next E167).next E173).next E181).next E190).next E232).next E31).only O40 (hge hg31)).next E239).next E32).only O41 (hge hg32))).whole | exact (hP5.from_ ((((((((((hB.next E167).next E173).next E181).next E190).next E232).next E31).only O40 (hge hg31)).next E239).next E32).only O41 (hge hg32))).rd 0 rfl | exact (hP5.from_ ((((((((((hB.next E167).next E173).next E181).next E190).next E232).next E31).only O40 (hge hg31)).next E239).next E32).only O41 (hge hg32))).rd 1 rfl | exact (hP5.from_ ((((((((((hB.next E167).next E173).next E181).next E190).next E232).next E31).only O40 (hge hg31)).next E239).next E32).only O41 (hge hg32))).rd 2 rfl | exact (P4.from_ From.rfl_).whole | exact (P4.from_ From.rfl_).rd 0 rfl | exact (P4.from_ From.rfl_).rd 1 rfl | exact (P4.from_ From.rfl_).rd 2 rfl | exact (P4.from_ From.rfl_).rd 3 rfl | exact (P4.from_ From.rfl_).rd 4 rfl | exact (P4.from_ From.rfl_).rd 5 rfl | exact (P4.from_ From.rfl_).rd 6 rfl | exact (P4.from_ From.rfl_).pre3 | exact (P7.from_ From.rfl_).whole | exact (P7.from_ From.rfl_).rd 0 rfl | exact (P7.from_ From.rfl_).rd 1 rfl | exact (P7.from_ From.rfl_).rd 2 rfl))) ?_
                                                          refine st_val (ro_fieldAddr EntLaw9_f27_4 rfl) ?_
                                                          refine st_val (ro_load EntLaw9_g3 rfl (by first | (first | exact (hP4.from_ ((((((((((hB.next E167).next E173).next E181).next E190).next E232).next E31).only O40 (hge hg31)).next E239).next E32).only O41 (hge hg32))).whole | exact (hP4.from_ ((((((((((hB.next E167).next E173).next E181).next E190).next E232).next E31).only O40 (hge hg31)).next E239).next E32).only O41 (hge hg32))).rd 0 rfl | exact (hP4.from_ ((((((((((hB.next E167).next E173).next E181).next E190).next E232).next E31).only O40 (hge hg31)).next E239).next E32).only O41 (hge hg32))).rd 1 rfl | exact (hP4.from_ ((((((((((hB.next E167).next E173).next E181).next E190).next E232).next E31).only O40 (hge hg31)).next E239).next E32).only O41 (hge hg32))).rd 2 rfl | exact (hP4.from_ ((((((((((hB.next E167).next E173).next E181).next E190).next E232).next E31).only O40 (hge hg31)).next E239).next E32).only O41 (hge hg32))).rd 3 rfl | exact (hP4.from_ ((((((((((hB.next E167).next E173).next E181).next E190).next E232).next E31).only O40 (hge hg31)).next E239).next E32).only O41 (hge hg32))).rd 4 rfl | exact (hP4.from_ ((((((((((hB.next E167).next E173).next E181).next E190).next E232).next E31).only O40 (hge hg31)).next E239).next E32).only O41 (hge hg32))).rd 5 rfl | exact (hP4.from_ ((((((((((hB.next E167).next E173).next E181).next E190).next E232).next E31).only O40 (hge hg31)).next E239).next E32).only O41 (hge hg32))).rd 6 rfl | exact (hP4.from_ ((((((((((hB.next E167).next E173).next E181).next E190).next E232).next E31).only O40 (hge hg31)).next E239).next E32).only O41 (hge hg32))).pre3 | exact (hP5.from_ ((((((((((hB.next E167).next E173).next E181).next E190).next E232).next E31).only O40 (hge hg31)).next E239).next E32).only O41 (hge hg32))).whole | exact (hP5.from_ ((((((((((hB.next E167).next E173).next E181).next E190).next E232).next E31).only O40 (hge hg31)).next E239).next E32).only O41 (hge hg32))).rd 0 rfl | exact (hP5.from_ ((((((((((hB.next E167).next E173).next E181).next E190).next E232).next E31).only O40 (hge hg31)).next E239).next E32).only O41 (hge hg32))).rd 1 rfl | exact (hP5.from_ ((((((((((hB.next E167).next E173).next E181).next E190).next E232).next E31).only O40 (hge hg31)).next E239).next E32).only O41 (hge hg32))).rd 2 rfl | exact (P4.from_ From.rfl_).whole | exact (P4.from_ From.rfl_).rd 0 rfl | exact (P4.from_ From.rfl_).rd 1 rfl | exact (P4.from_ From.rfl_).rd 2 rfl | exact (P4.from_ From.rfl_).rd 3 rfl | exact (P4.from_ From.rfl_).rd 4 rfl | exact (P4.from_ From.rfl_).rd 5 rfl | exact (P4.from_ From.rfl_).rd 6 rfl | exact (P4.from_ From.rfl_).pre3 | exact (P7.from_ From.rfl_).whole | exact (P7.from_ From.rfl_).rd 0 rfl | exact (P7.from_ From.rfl_).rd 1 rfl | exact (P7.from_ From.rfl_).rd 2 rfl))) ?_
                                                          have hz248 := (((((((((((hB.next E167).next E173).next E181).next E190).next E232).next E31).only O40 (hge hg31)).next E239).next E32).only O41 (hge hg32))).size
                                                          have hkv := own_lt ((hv.le hz239).from_ From.rfl_).own
                                                          refine st_call EntLaw9_k30 (slice_rt B T I N A5 _ c5 xs _ (hX.from_ ((((((((((hB.next E167).next E173).next E181).next E190).next E232).next E31).only O40 (hge hg31)).next E239).next E32).only O41 (hge hg32))) hN0.2) ?_
                                                          rintro v248 w67 ⟨A33, n33, c33, rfl, hw, E248⟩
                                                          refine st_val (ro_move (v := .tuple _) rfl) ?_
                                                          refine st_val (ro_extract rfl rfl) ?_
                                                          refine st_val (ro_extract rfl rfl) ?_
                                                          refine st_val (ro_assign (v := .slice _ _ _) rfl) ?_
                                                          refine st_val (ro_assign (v := .int _ _) rfl) ?_
                                                          refine st_nil ?_
                                                          refine nx_then ?_
                                                          refine cd_seq ?_
                                                          refine cd_region ?_
                                                          refine st_val (ro_loadA (cs := [_, _, _]) EntLaw9_g25 EntLaw9_z25 rfl (by first | (first | exact (hP4.from_ (((((((((((hB.next E167).next E173).next E181).next E190).next E232).next E31).only O40 (hge hg31)).next E239).next E32).only O41 (hge hg32)).next E248)).whole | exact (hP4.from_ (((((((((((hB.next E167).next E173).next E181).next E190).next E232).next E31).only O40 (hge hg31)).next E239).next E32).only O41 (hge hg32)).next E248)).rd 0 rfl | exact (hP4.from_ (((((((((((hB.next E167).next E173).next E181).next E190).next E232).next E31).only O40 (hge hg31)).next E239).next E32).only O41 (hge hg32)).next E248)).rd 1 rfl | exact (hP4.from_ (((((((((((hB.next E167).next E173).next E181).next E190).next E232).next E31).only O40 (hge hg31)).next E239).next E32).only O41 (hge hg32)).next E248)).rd 2 rfl | exact (hP4.from_ (((((((((((hB.next E167).next E173).next E181).next E190).next E232).next E31).only O40 (hge hg31)).next E239).next E32).only O41 (hge hg32)).next E248)).rd 3 rfl | exact (hP4.from_ (((((((((((hB.next E167).next E173).next E181).next E190).next E232).next E31).only O40 (hge hg31)).next E239).next E32).only O41 (hge hg32)).next E248)).rd 4 rfl | exact (hP4.from_ (((((((((((hB.next E167).next E173).next E181).next E190).next E232).next E31).only O40 (hge hg31)).next E239).next E32).only O41 (hge hg32)).next E248)).rd 5 rfl | exact (hP4.from_ (((((((((((hB.next E167).next E173).next E181).next E190).next E232).next E31).only O40 (hge hg31)).next E239).next E32).only O41 (hge hg32)).next E248)).rd 6 rfl | exact (hP4.from_ (((((((((((hB.next E167).next E173).next E181).next E190).next E232).next E31).only O40 (hge hg31)).next E239).next E32).only O41 (hge hg32)).next E248)).pre3 | exact (hP5.from_ (((((((((((hB.next E167).next E173).next E181).next E190).next E232).next E31).only O40 (hge hg31)).next E239).next E32).only O41 (hge hg32)).next E248)).whole | exact (hP5.from_ (((((((((((hB.next E167).next E173).next E181).next E190).next E232).next E31).only O40 (hge hg31)).next E239).next E32).only O41 (hge hg32)).next E248)).rd 0 rfl | exact (hP5.from_ (((((((((((hB.next E167).next E173).next E181).next E190).next E232).next E31).only O40 (hge hg31)).next E239).next E32).only O41 (hge hg32)).next E248)).rd 1 rfl | exact (hP5.from_ (((((((((((hB.next E167).next E173).next E181).next E190).next E232).next E31).only O40 (hge hg31)).next E239).next E32).only O41 (hge hg32)).next E248)).rd 2 rfl | exact (P4.from_ (From.rfl_.next E248)).whole | exact (P4.from_ (From.rfl_.next E248)).rd 0 rfl | exact (P4.from_ (From.rfl_.next E248)).rd 1 rfl | exact (P4.from_ (From.rfl_.next E248)).rd 2 rfl | exact (P4.from_ (From.rfl_.next E248)).rd 3 rfl | exact (P4.from_ (From.rfl_.next E248)).rd 4 rfl | exact (P4.from_ (From.rfl_.next E248)).rd 5 rfl | exact (P4.from_ (From.rfl_.next E248)).rd 6 rfl | exact (P4.from_ (From.rfl_.next E248)).pre3 | exact (P7.from_ (From.rfl_.next E248)).whole | exact (P7.from_ (From.rfl_.next E248)).rd 0 rfl | exact (P7.from_ (From.rfl_.next E248)).rd 1 rfl | exact (P7.from_ (From.rfl_.next E248)).rd 2 rfl))) ?_
                                                          refine st_val (ro_fieldAddr EntLaw9_f27_1 rfl) ?_
                                                          refine st_val (ro_load EntLaw9_g3 rfl (by first | (first | exact (hP4.from_ (((((((((((hB.next E167).next E173).next E181).next E190).next E232).next E31).only O40 (hge hg31)).next E239).next E32).only O41 (hge hg32)).next E248)).whole | exact (hP4.from_ (((((((((((hB.next E167).next E173).next E181).next E190).next E232).next E31).only O40 (hge hg31)).next E239).next E32).only O41 (hge hg32)).next E248)).rd 0 rfl | exact (hP4.from_ (((((((((((hB.next E167).next E173).next E181).next E190).next E232).next E31).only O40 (hge hg31)).next E239).next E32).only O41 (hge hg32)).next E248)).rd 1 rfl | exact (hP4.from_ (((((((((((hB.next E167).next E173).next E181).next E190).next E232).next E31).only O40 (hge hg31)).next E239).next E32).only O41 (hge hg32)).next E248)).rd 2 rfl | exact (hP4.from_ (((((((((((hB.next E167).next E173).next E181).next E190).next E232).next E31).only O40 (hge hg31)).next E239).next E32).only O41 (hge hg32)).next E248)).rd 3 rfl | exact (hP4.from_ (((((((((((hB.next E167).next E173).next E181).next E190).next E232).next E31).only O40 (hge hg31)).next E239).next E32).only O41 (hge hg32)).next E248)).rd 4 rfl | exact (hP4.from_ (((((((((((hB.next E167).next E173).next E181).next E190).next E232).next E31).only O40 (hge hg31)).next E239).next E32).only O41 (hge hg32)).next E248)).rd 5 rfl | exact (hP4.from_ (((((((((((hB.next E167).next E173).next E181).next E190).next E232).next E31).only O40 (hge hg31)).next E239).next E32).only O41 (hge hg32)).next E248)).rd 6 rfl | exact (hP4.from_ (((((((((((hB.next E167).next E173).next E181).next E190).next E232).next E31).only O40 (hge hg31)).next E239).next E32).only O41 (hge hg32)).next E248)).pre3 | exact (hP5.from_ (((((((((((hB.next E167).next E173).next E181).next E190).next E232).next E31).only O40 (hge hg31)).next E239).next E32).only O41 (hge hg32)).next E248)).whole | exact (hP5.from_ (((((((((((hB.next E167).next E173).next E181).next E190).next E232).next E31).only O40 (hge hg31)).next E239).next E32).only O41 (hge hg32)).next E248)).rd 0 rfl | exact (hP5.from_ (((((((((((hB.next E167).next E173).next E181).next E190).next E232).next E31).only O40 (hge hg31)).next E239).next E32).only O41 (hge hg32)).next E248)).rd 1 rfl | exact (hP5.from_ (((((((((((hB.next E167).next E173).next E181).next E190).next E232).next E31).only O40 (hge hg31)).next E239).next E32).only O41 (hge hg32)).next E248)).rd 2 rfl | exact (P4.from_ (From.rfl_.next E248)).whole | exact (P4.from_ (From.rfl_.next E248)).rd 0 rfl | exact (P4.from_ (From.rfl_.next E248)).rd 1 rfl | exact (P4.from_ (From.rfl_.next E248)).rd 2 rfl | exact (P4.from_ (From.rfl_.next E248)).rd 3 rfl | exact (P4.from_ (From.rfl_.next E248)).rd 4 rfl | exact (P4.from_ (From.rfl_.next E248)).rd 5 rfl | exact (P4.from_ (From.rfl_.next E248)).rd 6 rfl | exact (P4.from_ (From.rfl_.next E248)).pre3 | exact (P7.from_ (From.rfl_.next E248)).whole | exact (P7.from_ (From.rfl_.next E248)).rd 0 rfl | exact (P7.from_ (From.rfl_.next E248)).rd 1 rfl | exact (P7.from_ (From.rfl_.next E248)).rd 2 rfl))) ?_
                                                          have hz255 := ((((((((((((hB.next E167).next E173).next E181).next E190).next E232).next E31).only O40 (hge hg31)).next E239).next E32).only O41 (hge hg32)).next E248)).size
                                                          have hkw := own_lt (ownsRow_le hw hz248)
                                                          refine st_call EntLaw9_k31 (comp_rt B T I A5 _ c5 xs _ (hX.from_ (((((((((((hB.next E167).next E173).next E181).next E190).next E232).next E31).only O40 (hge hg31)).next E239).next E32).only O41 (hge hg32)).next E248))) ?_
                                                          rintro v255 w68 ⟨X34, Y34, A34, n34, c34, rfl, hy, E255⟩
                                                          refine st_val (ro_move (v := .tuple _) rfl) ?_
                                                          refine st_val (ro_extract rfl rfl) ?_
                                                          refine st_val (ro_extract rfl rfl) ?_
                                                          refine st_alloc EntLaw9_o25 ?_
                                                          intro b34 w69 E34 hb34 hk34
                                                          have hg34 : s0 ≤ b34 := by rw [hs0, hb34]; exact (((((((((((((hB.next E167).next E173).next E181).next E190).next E232).next E31).only O40 (hge hg31)).next E239).next E32).only O41 (hge hg32)).next E248).next E255)).size
                                                          refine st_putW (vs := [_, _, _]) EntLaw9_z25 rfl rfl (by simp [Value.oneCell']) (hk34) rfl ?_
                                                          intro w70 O43 P43
                                                          have z11 := E248.size
                                                          have z12 := E255.size
                                                          have z13 := E34.size
                                                          have z14 := O43.size
                                                          have F43 := (((From.rfl_.next E248).next E255).next E34).only O43 (by omega)
                                                          replace P14 := P14.from_ F43
                                                          replace L14 := L14.from_ F43
                                                          replace P15 := P15.from_ F43
                                                          replace L15 := L15.from_ F43
                                                          replace P16 := P16.from_ F43
                                                          replace L16 := L16.from_ F43
                                                          replace hu := hu.from_ F43
                                                          replace P40 := P40.from_ F43
                                                          replace hv := hv.from_ F43
                                                          replace P41 := P41.from_ F43
                                                          replace ho17 := ho17.kept_from F43
                                                          replace hw := hw.kept_from (((From.rfl_.next E255).next E34).only O43 (by omega))
                                                          replace hy := hy.from_ ((From.rfl_.next E34).only O43 (by omega))
                                                          refine st_val (ro_assign (v := .int _ _) rfl) ?_
                                                          refine st_nil ?_
                                                          refine nx_then ?_
                                                          refine cd_seq ?_
                                                          refine cd_seq ?_
                                                          refine cd_region ?_
                                                          refine st_val (ro_move (v := .int _ _) rfl) ?_
                                                          refine st_call EntLaw9_k23 (Rt.of (errnum_any _ _)) ?_
                                                          rintro v259 w71 ⟨rfl, rfl⟩
                                                          refine st_val (ro_move (v := .int _ _) rfl) ?_
                                                          refine st_val (ro_neq rfl rfl) ?_
                                                          refine st_val (ro_move (v := .bool _) rfl) ?_
                                                          refine st_split (t := 262) rfl (fun Q72 => ?_) (fun Q72 => ?_)
                                                          · (try first | replace Q72 := bn_t Q72 | replace Q72 := bn_f Q72)
                                                            (try first | replace Q72 := bx_t Q72 | replace Q72 := bx_f Q72 | replace Q72 := be_t Q72 | replace Q72 := be_f Q72 | replace Q72 := of_decide_eq_true Q72 | replace Q72 := of_decide_eq_false Q72)
                                                            first
                                                             | (exfalso; first | omega | contradiction | (cases Q72; done))
                                                             | skip
                                                               refine st_gno rfl rfl ?_
                                                               refine st_gno rfl rfl ?_
                                                               refine st_gno rfl rfl ?_
                                                               refine st_gno rfl rfl ?_
                                                               refine st_val (ro_pickT (v := .bool _) rfl rfl) ?_
                                                               refine st_val (ro_move (v := .bool _) rfl) ?_
                                                               refine st_gno rfl rfl ?_
                                                               refine st_gno rfl rfl ?_
                                                               refine st_gno rfl rfl ?_
                                                               refine st_gno rfl rfl ?_
                                                               refine st_val (ro_pickT (v := .bool _) rfl rfl) ?_
                                                               refine st_val (ro_move (v := .bool _) rfl) ?_
                                                               refine st_gno rfl rfl ?_
                                                               refine st_gno rfl rfl ?_
                                                               refine st_gno rfl rfl ?_
                                                               refine st_gno rfl rfl ?_
                                                               refine st_val (ro_pickT (v := .bool _) rfl rfl) ?_
                                                               refine st_val (ro_move (v := .bool _) rfl) ?_
                                                               refine st_gno rfl rfl ?_
                                                               refine st_gno rfl rfl ?_
                                                               refine st_gno rfl rfl ?_
                                                               refine st_gno rfl rfl ?_
                                                               refine st_val (ro_pickT (v := .bool _) rfl rfl) ?_
                                                               refine st_val (ro_move (v := .bool _) rfl) ?_
                                                               refine st_gno rfl rfl ?_
                                                               refine st_gno rfl rfl ?_
                                                               refine st_gno rfl rfl ?_
                                                               refine st_gno rfl rfl ?_
                                                               refine st_val (ro_pickT (v := .bool _) rfl rfl) ?_
                                                               refine st_val (ro_move (v := .bool _) rfl) ?_
                                                               refine st_gno rfl rfl ?_
                                                               refine st_gno rfl rfl ?_
                                                               refine st_gno rfl rfl ?_
                                                               refine st_gno rfl rfl ?_
                                                               refine st_val (ro_pickT (v := .bool _) rfl rfl) ?_
                                                               refine st_val (ro_move (v := .bool _) rfl) ?_
                                                               refine st_gno rfl rfl ?_
                                                               refine st_gno rfl rfl ?_
                                                               refine st_gno rfl rfl ?_
                                                               refine st_gno rfl rfl ?_
                                                               refine st_val (ro_pickT (v := .bool _) rfl rfl) ?_
                                                               refine st_nil ?_
                                                               refine nx_then ?_
                                                               refine cd_condT rfl ?_
                                                               refine cd_seq ?_
                                                               refine cd_region ?_
                                                               refine st_val (ro_assign (v := .bool _) rfl) ?_
                                                               refine st_nil ?_
                                                               refine nx_then ?_
                                                               refine cd_ret ?_
                                                               refine rt_then ?_
                                                               refine rt_block ?_
                                                               refine rt_then ?_
                                                               refine rt_then ?_
                                                               refine rt_block ?_
                                                               refine rt_then ?_
                                                               refine res1 (v := .bool _) rfl rfl ?_
                                                               exact ⟨rfl, ((((((((((((((hB.next E167).next E173).next E181).next E190).next E232).next E31).only O40 (hge hg31)).next E239).next E32).only O41 (hge hg32)).next E248).next E255).next E34).only O43 (hge hg34))⟩
                                                          · (try first | replace Q72 := bn_t Q72 | replace Q72 := bn_f Q72)
                                                            (try first | replace Q72 := bx_t Q72 | replace Q72 := bx_f Q72 | replace Q72 := be_t Q72 | replace Q72 := be_f Q72 | replace Q72 := of_decide_eq_true Q72 | replace Q72 := of_decide_eq_false Q72)
                                                            first
                                                             | (exfalso; first | omega | contradiction | (cases Q72; done))
                                                             | skip
                                                               refine st_unguard rfl ?_
                                                               refine st_val (ro_loadA (cs := [_, _, _]) EntLaw9_g25 EntLaw9_z25 rfl (by first | exact (P40.from_ From.rfl_).whole | exact (P40.from_ From.rfl_).rd 0 rfl | exact (P40.from_ From.rfl_).rd 1 rfl | exact (P40.from_ From.rfl_).rd 2 rfl)) ?_
                                                               refine st_unguard rfl ?_
                                                               refine st_val (ro_loadA (cs := [_, _, _]) EntLaw9_g25 EntLaw9_z25 rfl (by first | exact (P14.from_ From.rfl_).whole | exact (P14.from_ From.rfl_).rd 0 rfl | exact (P14.from_ From.rfl_).rd 1 rfl | exact (P14.from_ From.rfl_).rd 2 rfl)) ?_
                                                               refine st_unguard rfl ?_
                                                               refine st_call EntLaw9_k32 (eqTold_rt (hu.from_ From.rfl_) (L14.from_ From.rfl_) (by rw [List.length_append]; omega)) ?_
                                                               rintro v265 w73 ⟨rfl, E265⟩
                                                               refine st_unguard rfl ?_
                                                               refine st_val (ro_not rfl) ?_
                                                               refine st_val (ro_pickF (v := .bool _) rfl rfl) ?_
                                                               refine st_val (ro_move (v := .bool _) rfl) ?_
                                                               refine st_split (t := 268) rfl (fun Q74 => ?_) (fun Q74 => ?_)
                                                               · (try first | replace Q74 := bn_t Q74 | replace Q74 := bn_f Q74)
                                                                 (try first | replace Q74 := bx_t Q74 | replace Q74 := bx_f Q74 | replace Q74 := be_t Q74 | replace Q74 := be_f Q74 | replace Q74 := of_decide_eq_true Q74 | replace Q74 := of_decide_eq_false Q74)
                                                                 first
                                                                  | (exfalso; first | omega | contradiction | (cases Q74; done))
                                                                  | skip
                                                                    refine st_gno rfl rfl ?_
                                                                    refine st_gno rfl rfl ?_
                                                                    refine st_gno rfl rfl ?_
                                                                    refine st_gno rfl rfl ?_
                                                                    refine st_val (ro_pickT (v := .bool _) rfl rfl) ?_
                                                                    refine st_val (ro_move (v := .bool _) rfl) ?_
                                                                    refine st_gno rfl rfl ?_
                                                                    refine st_gno rfl rfl ?_
                                                                    refine st_gno rfl rfl ?_
                                                                    refine st_gno rfl rfl ?_
                                                                    refine st_val (ro_pickT (v := .bool _) rfl rfl) ?_
                                                                    refine st_val (ro_move (v := .bool _) rfl) ?_
                                                                    refine st_gno rfl rfl ?_
                                                                    refine st_gno rfl rfl ?_
                                                                    refine st_gno rfl rfl ?_
                                                                    refine st_gno rfl rfl ?_
                                                                    refine st_val (ro_pickT (v := .bool _) rfl rfl) ?_
                                                                    refine st_val (ro_move (v := .bool _) rfl) ?_
                                                                    refine st_gno rfl rfl ?_
                                                                    refine st_gno rfl rfl ?_
                                                                    refine st_gno rfl rfl ?_
                                                                    refine st_gno rfl rfl ?_
                                                                    refine st_val (ro_pickT (v := .bool _) rfl rfl) ?_
                                                                    refine st_val (ro_move (v := .bool _) rfl) ?_
                                                                    refine st_gno rfl rfl ?_
                                                                    refine st_gno rfl rfl ?_
                                                                    refine st_gno rfl rfl ?_
                                                                    refine st_gno rfl rfl ?_
                                                                    refine st_val (ro_pickT (v := .bool _) rfl rfl) ?_
                                                                    refine st_val (ro_move (v := .bool _) rfl) ?_
                                                                    refine st_gno rfl rfl ?_
                                                                    refine st_gno rfl rfl ?_
                                                                    refine st_gno rfl rfl ?_
                                                                    refine st_gno rfl rfl ?_
                                                                    refine st_val (ro_pickT (v := .bool _) rfl rfl) ?_
                                                                    refine st_nil ?_
                                                                    refine nx_then ?_
                                                                    refine cd_condT rfl ?_
                                                                    refine cd_seq ?_
                                                                    refine cd_region ?_
                                                                    refine st_val (ro_assign (v := .bool _) rfl) ?_
                                                                    refine st_nil ?_
                                                                    refine nx_then ?_
                                                                    refine cd_ret ?_
                                                                    refine rt_then ?_
                                                                    refine rt_block ?_
                                                                    refine rt_then ?_
                                                                    refine rt_then ?_
                                                                    refine rt_block ?_
                                                                    refine rt_then ?_
                                                                    refine res1 (v := .bool _) rfl rfl ?_
                                                                    exact ⟨rfl, (((((((((((((((hB.next E167).next E173).next E181).next E190).next E232).next E31).only O40 (hge hg31)).next E239).next E32).only O41 (hge hg32)).next E248).next E255).next E34).only O43 (hge hg34)).next E265)⟩
                                                               · (try first | replace Q74 := bn_t Q74 | replace Q74 := bn_f Q74)
                                                                 (try first | replace Q74 := bx_t Q74 | replace Q74 := bx_f Q74 | replace Q74 := be_t Q74 | replace Q74 := be_f Q74 | replace Q74 := of_decide_eq_true Q74 | replace Q74 := of_decide_eq_false Q74)
                                                                 first
                                                                  | (exfalso; first | omega | contradiction | (cases Q74; done))
                                                                  | skip
                                                                    refine st_unguard rfl ?_
                                                                    refine st_val (ro_move (v := .int _ _) rfl) ?_
                                                                    refine st_unguard rfl ?_
                                                                    refine st_call EntLaw9_k23 (Rt.of (errnum_any _ _)) ?_
                                                                    rintro v270 w75 ⟨rfl, rfl⟩
                                                                    refine st_unguard rfl ?_
                                                                    refine st_val (ro_move (v := .int _ _) rfl) ?_
                                                                    refine st_unguard rfl ?_
                                                                    refine st_val (ro_neq rfl rfl) ?_
                                                                    refine st_val (ro_pickF (v := .bool _) rfl rfl) ?_
                                                                    refine st_val (ro_move (v := .bool _) rfl) ?_
                                                                    refine st_split (t := 274) rfl (fun Q76 => ?_) (fun Q76 => ?_)
                                                                    · (try first | replace Q76 := bn_t Q76 | replace Q76 := bn_f Q76)
                                                                      (try first | replace Q76 := bx_t Q76 | replace Q76 := bx_f Q76 | replace Q76 := be_t Q76 | replace Q76 := be_f Q76 | replace Q76 := of_decide_eq_true Q76 | replace Q76 := of_decide_eq_false Q76)
                                                                      first
                                                                       | (exfalso; first | omega | contradiction | (cases Q76; done))
                                                                       | skip
                                                                         refine st_gno rfl rfl ?_
                                                                         refine st_gno rfl rfl ?_
                                                                         refine st_gno rfl rfl ?_
                                                                         refine st_gno rfl rfl ?_
                                                                         refine st_val (ro_pickT (v := .bool _) rfl rfl) ?_
                                                                         refine st_val (ro_move (v := .bool _) rfl) ?_
                                                                         refine st_gno rfl rfl ?_
                                                                         refine st_gno rfl rfl ?_
                                                                         refine st_gno rfl rfl ?_
                                                                         refine st_gno rfl rfl ?_
                                                                         refine st_val (ro_pickT (v := .bool _) rfl rfl) ?_
                                                                         refine st_val (ro_move (v := .bool _) rfl) ?_
                                                                         refine st_gno rfl rfl ?_
                                                                         refine st_gno rfl rfl ?_
                                                                         refine st_gno rfl rfl ?_
                                                                         refine st_gno rfl rfl ?_
                                                                         refine st_val (ro_pickT (v := .bool _) rfl rfl) ?_
                                                                         refine st_val (ro_move (v := .bool _) rfl) ?_
                                                                         refine st_gno rfl rfl ?_
                                                                         refine st_gno rfl rfl ?_
                                                                         refine st_gno rfl rfl ?_
                                                                         refine st_gno rfl rfl ?_
                                                                         refine st_val (ro_pickT (v := .bool _) rfl rfl) ?_
                                                                         refine st_val (ro_move (v := .bool _) rfl) ?_
                                                                         refine st_gno rfl rfl ?_
                                                                         refine st_gno rfl rfl ?_
                                                                         refine st_gno rfl rfl ?_
                                                                         refine st_gno rfl rfl ?_
                                                                         refine st_val (ro_pickT (v := .bool _) rfl rfl) ?_
                                                                         refine st_nil ?_
                                                                         refine nx_then ?_
                                                                         refine cd_condT rfl ?_
                                                                         refine cd_seq ?_
                                                                         refine cd_region ?_
                                                                         refine st_val (ro_assign (v := .bool _) rfl) ?_
                                                                         refine st_nil ?_
                                                                         refine nx_then ?_
                                                                         refine cd_ret ?_
                                                                         refine rt_then ?_
                                                                         refine rt_block ?_
                                                                         refine rt_then ?_
                                                                         refine rt_then ?_
                                                                         refine rt_block ?_
                                                                         refine rt_then ?_
                                                                         refine res1 (v := .bool _) rfl rfl ?_
                                                                         exact ⟨rfl, (((((((((((((((hB.next E167).next E173).next E181).next E190).next E232).next E31).only O40 (hge hg31)).next E239).next E32).only O41 (hge hg32)).next E248).next E255).next E34).only O43 (hge hg34)).next E265)⟩
                                                                    · (try first | replace Q76 := bn_t Q76 | replace Q76 := bn_f Q76)
                                                                      (try first | replace Q76 := bx_t Q76 | replace Q76 := bx_f Q76 | replace Q76 := be_t Q76 | replace Q76 := be_f Q76 | replace Q76 := of_decide_eq_true Q76 | replace Q76 := of_decide_eq_false Q76)
                                                                      first
                                                                       | (exfalso; first | omega | contradiction | (cases Q76; done))
                                                                       | skip
                                                                         refine st_unguard rfl ?_
                                                                         refine st_val (ro_loadA (cs := [_, _, _]) EntLaw9_g25 EntLaw9_z25 rfl (by first | exact (P41.from_ (From.rfl_.next E265)).whole | exact (P41.from_ (From.rfl_.next E265)).rd 0 rfl | exact (P41.from_ (From.rfl_.next E265)).rd 1 rfl | exact (P41.from_ (From.rfl_.next E265)).rd 2 rfl)) ?_
                                                                         refine st_unguard rfl ?_
                                                                         refine st_val (ro_loadA (cs := [_, _, _]) EntLaw9_g25 EntLaw9_z25 rfl (by first | exact (P15.from_ (From.rfl_.next E265)).whole | exact (P15.from_ (From.rfl_.next E265)).rd 0 rfl | exact (P15.from_ (From.rfl_.next E265)).rd 1 rfl | exact (P15.from_ (From.rfl_.next E265)).rd 2 rfl)) ?_
                                                                         refine st_unguard rfl ?_
                                                                         refine st_call EntLaw9_k32 (eqTold_rt (hv.from_ (From.rfl_.next E265)) (L15.from_ (From.rfl_.next E265)) (by rw [List.length_take]; omega)) ?_
                                                                         rintro v277 w77 ⟨rfl, E277⟩
                                                                         refine st_unguard rfl ?_
                                                                         refine st_val (ro_not rfl) ?_
                                                                         refine st_val (ro_pickF (v := .bool _) rfl rfl) ?_
                                                                         refine st_val (ro_move (v := .bool _) rfl) ?_
                                                                         refine st_split (t := 280) rfl (fun Q78 => ?_) (fun Q78 => ?_)
                                                                         · (try first | replace Q78 := bn_t Q78 | replace Q78 := bn_f Q78)
                                                                           (try first | replace Q78 := bx_t Q78 | replace Q78 := bx_f Q78 | replace Q78 := be_t Q78 | replace Q78 := be_f Q78 | replace Q78 := of_decide_eq_true Q78 | replace Q78 := of_decide_eq_false Q78)
                                                                           first
                                                                            | (exfalso; first | omega | contradiction | (cases Q78; done))
                                                                            | skip
                                                                              refine st_gno rfl rfl ?_
                                                                              refine st_gno rfl rfl ?_
                                                                              refine st_gno rfl rfl ?_
                                                                              refine st_gno rfl rfl ?_
                                                                              refine st_val (ro_pickT (v := .bool _) rfl rfl) ?_
                                                                              refine st_val (ro_move (v := .bool _) rfl) ?_
                                                                              refine st_gno rfl rfl ?_
                                                                              refine st_gno rfl rfl ?_
                                                                              refine st_gno rfl rfl ?_
                                                                              refine st_gno rfl rfl ?_
                                                                              refine st_val (ro_pickT (v := .bool _) rfl rfl) ?_
                                                                              refine st_val (ro_move (v := .bool _) rfl) ?_
                                                                              refine st_gno rfl rfl ?_
                                                                              refine st_gno rfl rfl ?_
                                                                              refine st_gno rfl rfl ?_
                                                                              refine st_gno rfl rfl ?_
                                                                              refine st_val (ro_pickT (v := .bool _) rfl rfl) ?_
                                                                              refine st_val (ro_move (v := .bool _) rfl) ?_
                                                                              refine st_gno rfl rfl ?_
                                                                              refine st_gno rfl rfl ?_
                                                                              refine st_gno rfl rfl ?_
                                                                              refine st_gno rfl rfl ?_
                                                                              refine st_val (ro_pickT (v := .bool _) rfl rfl) ?_
                                                                              refine st_nil ?_
                                                                              refine nx_then ?_
                                                                              refine cd_condT rfl ?_
                                                                              refine cd_seq ?_
                                                                              refine cd_region ?_
                                                                              refine st_val (ro_assign (v := .bool _) rfl) ?_
                                                                              refine st_nil ?_
                                                                              refine nx_then ?_
                                                                              refine cd_ret ?_
                                                                              refine rt_then ?_
                                                                              refine rt_block ?_
                                                                              refine rt_then ?_
                                                                              refine rt_then ?_
                                                                              refine rt_block ?_
                                                                              refine rt_then ?_
                                                                              refine res1 (v := .bool _) rfl rfl ?_
                                                                              exact ⟨rfl, ((((((((((((((((hB.next E167).next E173).next E181).next E190).next E232).next E31).only O40 (hge hg31)).next E239).next E32).only O41 (hge hg32)).next E248).next E255).next E34).only O43 (hge hg34)).next E265).next E277)⟩
                                                                         · (try first | replace Q78 := bn_t Q78 | replace Q78 := bn_f Q78)
                                                                           (try first | replace Q78 := bx_t Q78 | replace Q78 := bx_f Q78 | replace Q78 := be_t Q78 | replace Q78 := be_f Q78 | replace Q78 := of_decide_eq_true Q78 | replace Q78 := of_decide_eq_false Q78)
                                                                           first
                                                                            | (exfalso; first | omega | contradiction | (cases Q78; done))
                                                                            | skip
                                                                              refine st_unguard rfl ?_
                                                                              refine st_val (ro_move (v := .int _ _) rfl) ?_
                                                                              refine st_unguard rfl ?_
                                                                              refine st_call EntLaw9_k23 (Rt.of (errnum_any _ _)) ?_
                                                                              rintro v282 w79 ⟨rfl, rfl⟩
                                                                              refine st_unguard rfl ?_
                                                                              refine st_val (ro_move (v := .int _ _) rfl) ?_
                                                                              refine st_unguard rfl ?_
                                                                              refine st_val (ro_neq rfl rfl) ?_
                                                                              refine st_val (ro_pickF (v := .bool _) rfl rfl) ?_
                                                                              refine st_val (ro_move (v := .bool _) rfl) ?_
                                                                              refine st_split (t := 286) rfl (fun Q80 => ?_) (fun Q80 => ?_)
                                                                              · (try first | replace Q80 := bn_t Q80 | replace Q80 := bn_f Q80)
                                                                                (try first | replace Q80 := bx_t Q80 | replace Q80 := bx_f Q80 | replace Q80 := be_t Q80 | replace Q80 := be_f Q80 | replace Q80 := of_decide_eq_true Q80 | replace Q80 := of_decide_eq_false Q80)
                                                                                first
                                                                                 | (exfalso; first | omega | contradiction | (cases Q80; done))
                                                                                 | skip
                                                                                   refine st_gno rfl rfl ?_
                                                                                   refine st_gno rfl rfl ?_
                                                                                   refine st_gno rfl rfl ?_
                                                                                   refine st_gno rfl rfl ?_
                                                                                   refine st_val (ro_pickT (v := .bool _) rfl rfl) ?_
                                                                                   refine st_val (ro_move (v := .bool _) rfl) ?_
                                                                                   refine st_gno rfl rfl ?_
                                                                                   refine st_gno rfl rfl ?_
                                                                                   refine st_gno rfl rfl ?_
                                                                                   refine st_gno rfl rfl ?_
                                                                                   refine st_val (ro_pickT (v := .bool _) rfl rfl) ?_
                                                                                   refine st_val (ro_move (v := .bool _) rfl) ?_
                                                                                   refine st_gno rfl rfl ?_
                                                                                   refine st_gno rfl rfl ?_
                                                                                   refine st_gno rfl rfl ?_
                                                                                   refine st_gno rfl rfl ?_
                                                                                   refine st_val (ro_pickT (v := .bool _) rfl rfl) ?_
                                                                                   refine st_nil ?_
                                                                                   refine nx_then ?_
                                                                                   refine cd_condT rfl ?_
                                                                                   refine cd_seq ?_
                                                                                   refine cd_region ?_
                                                                                   refine st_val (ro_assign (v := .bool _) rfl) ?_
                                                                                   refine st_nil ?_
                                                                                   refine nx_then ?_
                                                                                   refine cd_ret ?_
                                                                                   refine rt_then ?_
                                                                                   refine rt_block ?_
                                                                                   refine rt_then ?_
                                                                                   refine rt_then ?_
                                                                                   refine rt_block ?_
                                                                                   refine rt_then ?_
                                                                                   refine res1 (v := .bool _) rfl rfl ?_
                                                                                   exact ⟨rfl, ((((((((((((((((hB.next E167).next E173).next E181).next E190).next E232).next E31).only O40 (hge hg31)).next E239).next E32).only O41 (hge hg32)).next E248).next E255).next E34).only O43 (hge hg34)).next E265).next E277)⟩
                                                                              · (try first | replace Q80 := bn_t Q80 | replace Q80 := bn_f Q80)
                                                                                (try first | replace Q80 := bx_t Q80 | replace Q80 := bx_f Q80 | replace Q80 := be_t Q80 | replace Q80 := be_f Q80 | replace Q80 := of_decide_eq_true Q80 | replace Q80 := of_decide_eq_false Q80)
                                                                                first
                                                                                 | (exfalso; first | omega | contradiction | (cases Q80; done))
                                                                                 | skip
                                                                                   refine st_unguard rfl ?_
                                                                                   refine st_val (ro_move (v := .slice _ _ _) rfl) ?_
                                                                                   refine st_unguard rfl ?_
                                                                                   refine st_val (ro_move (v := .slice _ _ _) rfl) ?_
                                                                                   refine st_unguard rfl ?_
                                                                                   refine st_call EntLaw9_k33 (Rt.of (eqEntries_same _ _ _ _ (own_ents (hw.kept_from ((From.rfl_.next E265).next E277))) (own_ents (ho17.kept_from ((From.rfl_.next E265).next E277))) (by split <;> simp <;> omega))) ?_
                                                                                   rintro v289 w81 ⟨rfl, E289⟩
                                                                                   refine st_unguard rfl ?_
                                                                                   refine st_val (ro_not rfl) ?_
                                                                                   refine st_val (ro_pickF (v := .bool _) rfl rfl) ?_
                                                                                   refine st_val (ro_move (v := .bool _) rfl) ?_
                                                                                   refine st_split (t := 292) rfl (fun Q82 => ?_) (fun Q82 => ?_)
                                                                                   · (try first | replace Q82 := bn_t Q82 | replace Q82 := bn_f Q82)
                                                                                     (try first | replace Q82 := bx_t Q82 | replace Q82 := bx_f Q82 | replace Q82 := be_t Q82 | replace Q82 := be_f Q82 | replace Q82 := of_decide_eq_true Q82 | replace Q82 := of_decide_eq_false Q82)
                                                                                     first
                                                                                      | (exfalso; first | omega | contradiction | (cases Q82; done))
                                                                                      | skip
                                                                                        refine st_gno rfl rfl ?_
                                                                                        refine st_gno rfl rfl ?_
                                                                                        refine st_gno rfl rfl ?_
                                                                                        refine st_gno rfl rfl ?_
                                                                                        refine st_val (ro_pickT (v := .bool _) rfl rfl) ?_
                                                                                        refine st_val (ro_move (v := .bool _) rfl) ?_
                                                                                        refine st_gno rfl rfl ?_
                                                                                        refine st_gno rfl rfl ?_
                                                                                        refine st_gno rfl rfl ?_
                                                                                        refine st_gno rfl rfl ?_
                                                                                        refine st_val (ro_pickT (v := .bool _) rfl rfl) ?_
                                                                                        refine st_nil ?_
                                                                                        refine nx_then ?_
                                                                                        refine cd_condT rfl ?_
                                                                                        refine cd_seq ?_
                                                                                        refine cd_region ?_
                                                                                        refine st_val (ro_assign (v := .bool _) rfl) ?_
                                                                                        refine st_nil ?_
                                                                                        refine nx_then ?_
                                                                                        refine cd_ret ?_
                                                                                        refine rt_then ?_
                                                                                        refine rt_block ?_
                                                                                        refine rt_then ?_
                                                                                        refine rt_then ?_
                                                                                        refine rt_block ?_
                                                                                        refine rt_then ?_
                                                                                        refine res1 (v := .bool _) rfl rfl ?_
                                                                                        exact ⟨rfl, (((((((((((((((((hB.next E167).next E173).next E181).next E190).next E232).next E31).only O40 (hge hg31)).next E239).next E32).only O41 (hge hg32)).next E248).next E255).next E34).only O43 (hge hg34)).next E265).next E277).next E289)⟩
                                                                                   · (try first | replace Q82 := bn_t Q82 | replace Q82 := bn_f Q82)
                                                                                     (try first | replace Q82 := bx_t Q82 | replace Q82 := bx_f Q82 | replace Q82 := be_t Q82 | replace Q82 := be_f Q82 | replace Q82 := of_decide_eq_true Q82 | replace Q82 := of_decide_eq_false Q82)
                                                                                     first
                                                                                      | (exfalso; first | omega | contradiction | (cases Q82; done))
                                                                                      | skip
                                                                                        refine st_unguard rfl ?_
                                                                                        refine st_val (ro_move (v := .int _ _) rfl) ?_
                                                                                        refine st_unguard rfl ?_
                                                                                        refine st_call EntLaw9_k23 (Rt.of (errnum_any _ _)) ?_
                                                                                        rintro v294 w83 ⟨rfl, rfl⟩
                                                                                        refine st_unguard rfl ?_
                                                                                        refine st_val (ro_move (v := .int _ _) rfl) ?_
                                                                                        refine st_unguard rfl ?_
                                                                                        refine st_val (ro_neq rfl rfl) ?_
                                                                                        refine st_val (ro_pickF (v := .bool _) rfl rfl) ?_
                                                                                        refine st_val (ro_move (v := .bool _) rfl) ?_
                                                                                        refine st_split (t := 298) rfl (fun Q84 => ?_) (fun Q84 => ?_)
                                                                                        · (try first | replace Q84 := bn_t Q84 | replace Q84 := bn_f Q84)
                                                                                          (try first | replace Q84 := bx_t Q84 | replace Q84 := bx_f Q84 | replace Q84 := be_t Q84 | replace Q84 := be_f Q84 | replace Q84 := of_decide_eq_true Q84 | replace Q84 := of_decide_eq_false Q84)
                                                                                          first
                                                                                           | (exfalso; first | omega | contradiction | (cases Q84; done))
                                                                                           | skip
                                                                                             refine st_gno rfl rfl ?_
                                                                                             refine st_gno rfl rfl ?_
                                                                                             refine st_gno rfl rfl ?_
                                                                                             refine st_gno rfl rfl ?_
                                                                                             refine st_val (ro_pickT (v := .bool _) rfl rfl) ?_
                                                                                             refine st_nil ?_
                                                                                             refine nx_then ?_
                                                                                             refine cd_condT rfl ?_
                                                                                             refine cd_seq ?_
                                                                                             refine cd_region ?_
                                                                                             refine st_val (ro_assign (v := .bool _) rfl) ?_
                                                                                             refine st_nil ?_
                                                                                             refine nx_then ?_
                                                                                             refine cd_ret ?_
                                                                                             refine rt_then ?_
                                                                                             refine rt_block ?_
                                                                                             refine rt_then ?_
                                                                                             refine rt_then ?_
                                                                                             refine rt_block ?_
                                                                                             refine rt_then ?_
                                                                                             refine res1 (v := .bool _) rfl rfl ?_
                                                                                             exact ⟨rfl, (((((((((((((((((hB.next E167).next E173).next E181).next E190).next E232).next E31).only O40 (hge hg31)).next E239).next E32).only O41 (hge hg32)).next E248).next E255).next E34).only O43 (hge hg34)).next E265).next E277).next E289)⟩
                                                                                        · (try first | replace Q84 := bn_t Q84 | replace Q84 := bn_f Q84)
                                                                                          (try first | replace Q84 := bx_t Q84 | replace Q84 := bx_f Q84 | replace Q84 := be_t Q84 | replace Q84 := be_f Q84 | replace Q84 := of_decide_eq_true Q84 | replace Q84 := of_decide_eq_false Q84)
                                                                                          first
                                                                                           | (exfalso; first | omega | contradiction | (cases Q84; done))
                                                                                           | skip
                                                                                             refine st_unguard rfl ?_
                                                                                             refine st_val (ro_loadA (cs := [_, _, _]) EntLaw9_g25 EntLaw9_z25 rfl (by first | exact (P43.from_ (((From.rfl_.next E265).next E277).next E289)).whole | exact (P43.from_ (((From.rfl_.next E265).next E277).next E289)).rd 0 rfl | exact (P43.from_ (((From.rfl_.next E265).next E277).next E289)).rd 1 rfl | exact (P43.from_ (((From.rfl_.next E265).next E277).next E289)).rd 2 rfl)) ?_
                                                                                             refine st_unguard rfl ?_
                                                                                             refine st_val (ro_loadA (cs := [_, _, _]) EntLaw9_g25 EntLaw9_z25 rfl (by first | exact (P16.from_ (((From.rfl_.next E265).next E277).next E289)).whole | exact (P16.from_ (((From.rfl_.next E265).next E277).next E289)).rd 0 rfl | exact (P16.from_ (((From.rfl_.next E265).next E277).next E289)).rd 1 rfl | exact (P16.from_ (((From.rfl_.next E265).next E277).next E289)).rd 2 rfl)) ?_
                                                                                             refine st_unguard rfl ?_
                                                                                             refine st_call EntLaw9_k32 (eqTold_rt (hy.from_ (((From.rfl_.next E265).next E277).next E289)) (L16.from_ (((From.rfl_.next E265).next E277).next E289)) (by rw [List.length_drop]; omega)) ?_
                                                                                             rintro v301 w85 ⟨rfl, E301⟩
                                                                                             refine st_unguard rfl ?_
                                                                                             refine st_val (ro_not rfl) ?_
                                                                                             refine st_val (ro_pickF (v := .bool _) rfl rfl) ?_
                                                                                             refine st_nil ?_
                                                                                             refine nx_then ?_
                                                                                             refine cd_cond rfl (fun Q86 => ?_) (fun Q86 => ?_)
                                                                                             · (try first | replace Q86 := bn_t Q86 | replace Q86 := bn_f Q86)
                                                                                               (try first | replace Q86 := bx_t Q86 | replace Q86 := bx_f Q86 | replace Q86 := be_t Q86 | replace Q86 := be_f Q86 | replace Q86 := of_decide_eq_true Q86 | replace Q86 := of_decide_eq_false Q86)
                                                                                               first
                                                                                                | (exfalso; first | omega | contradiction | (cases Q86; done))
                                                                                                | skip
                                                                                                  refine cd_seq ?_
                                                                                                  refine cd_region ?_
                                                                                                  refine st_val (ro_assign (v := .bool _) rfl) ?_
                                                                                                  refine st_nil ?_
                                                                                                  refine nx_then ?_
                                                                                                  refine cd_ret ?_
                                                                                                  refine rt_then ?_
                                                                                                  refine rt_block ?_
                                                                                                  refine rt_then ?_
                                                                                                  refine rt_then ?_
                                                                                                  refine rt_block ?_
                                                                                                  refine rt_then ?_
                                                                                                  refine res1 (v := .bool _) rfl rfl ?_
                                                                                                  exact ⟨rfl, ((((((((((((((((((hB.next E167).next E173).next E181).next E190).next E232).next E31).only O40 (hge hg31)).next E239).next E32).only O41 (hge hg32)).next E248).next E255).next E34).only O43 (hge hg34)).next E265).next E277).next E289).next E301)⟩
                                                                                             · (try first | replace Q86 := bn_t Q86 | replace Q86 := bn_f Q86)
                                                                                               (try first | replace Q86 := bx_t Q86 | replace Q86 := bx_f Q86 | replace Q86 := be_t Q86 | replace Q86 := be_f Q86 | replace Q86 := of_decide_eq_true Q86 | replace Q86 := of_decide_eq_false Q86)
                                                                                               first
                                                                                                | (exfalso; first | omega | contradiction | (cases Q86; done))
                                                                                                | skip
                                                                                                  refine cd_skip ?_
                                                                                                  refine nx_then ?_
                                                                                                  refine cd_seq ?_
                                                                                                  refine cd_region ?_
                                                                                                  refine st_val (ro_fieldAddr EntLaw9_f25_2 rfl) ?_
                                                                                                  refine st_val (ro_load EntLaw9_g23 rfl (by exact (P40.from_ ((((From.rfl_.next E265).next E277).next E289).next E301)).rd 2 rfl)) ?_
                                                                                                  refine st_call EntLaw9_k34 (spoilEnts_any _ A31 n31 c31 _ _ ((hu.le hz232).from_ ((((From.rfl_.next E265).next E277).next E289).next E301)).own (by have := hu.len; rw [List.length_append] at this; omega) (((((((((((((((((((hB.next E167).next E173).next E181).next E190).next E232).next E31).only O40 (hge hg31)).next E239).next E32).only O41 (hge hg32)).next E248).next E255).next E34).only O43 (hge hg34)).next E265).next E277).next E289).next E301)).size) ?_
                                                                                                  rintro v306 w87 hg306
                                                                                                  replace P41 := (P41.from_ ((((From.rfl_.next E265).next E277).next E289).next E301)).grown hg306 (fun k hk => by have := hku k hk; omega)
                                                                                                  replace P43 := (P43.from_ ((((From.rfl_.next E265).next E277).next E289).next E301)).grown hg306 (fun k hk => by have := hku k hk; omega)
                                                                                                  replace hv := (hv.from_ ((((From.rfl_.next E265).next E277).next E289).next E301)).kept hg306 (fun k hk => by have := hku k hk; omega)
                                                                                                  replace hw := own_kept (hw.kept_from ((((From.rfl_.next E265).next E277).next E289).next E301)) hg306 (fun k hk => by have := hku k hk; omega)
                                                                                                  replace hy := (hy.from_ ((((From.rfl_.next E265).next E277).next E289).next E301)).kept hg306 (fun k hk => by have := hku k hk; omega)
                                                                                                  refine st_nil ?_
                                                                                                  refine nx_then ?_
                                                                                                  refine cd_seq ?_
                                                                                                  refine cd_region ?_
                                                                                                  refine st_val (ro_fieldAddr EntLaw9_f25_2 rfl) ?_
                                                                                                  refine st_val (ro_load EntLaw9_g23 rfl (by exact (P41.from_ From.rfl_).rd 2 rfl)) ?_
                                                                                                  refine st_call EntLaw9_k34 (spoilEnts_any _ A32 n32 c32 _ _ ((hv.le hz239).from_ From.rfl_).own (by have := hv.len; rw [List.length_take] at this; omega) ((((((((((((((((((((hB.next E167).next E173).next E181).next E190).next E232).next E31).only O40 (hge hg31)).next E239).next E32).only O41 (hge hg32)).next E248).next E255).next E34).only O43 (hge hg34)).next E265).next E277).next E289).next E301).grew hg306 (fun k hk => (hku k hk).1))).size) ?_
                                                                                                  rintro v309 w88 hg309
                                                                                                  replace P43 := (P43.from_ From.rfl_).grown hg309 (fun k hk => by have := hkv k hk; omega)
                                                                                                  replace hw := own_kept (hw.kept_from From.rfl_) hg309 (fun k hk => by have := hkv k hk; omega)
                                                                                                  replace hy := (hy.from_ From.rfl_).kept hg309 (fun k hk => by have := hkv k hk; omega)
                                                                                                  refine st_nil ?_
                                                                                                  refine nx_then ?_
                                                                                                  refine cd_seq ?_
                                                                                                  refine cd_region ?_
                                                                                                  refine st_val (ro_move (v := .slice _ _ _) rfl) ?_
                                                                                                  refine st_call EntLaw9_k34 (spoilEnts_any _ A33 n33 c33 _ _ (ownsRow_le (hw.kept_from From.rfl_) hz248) (by have := own_elen hw; rw [this]; split <;> simp <;> omega) (((((((((((((((((((((hB.next E167).next E173).next E181).next E190).next E232).next E31).only O40 (hge hg31)).next E239).next E32).only O41 (hge hg32)).next E248).next E255).next E34).only O43 (hge hg34)).next E265).next E277).next E289).next E301).grew hg306 (fun k hk => (hku k hk).1)).grew hg309 (fun k hk => (hkv k hk).1))).size) ?_
                                                                                                  rintro v311 w89 hg311
                                                                                                  replace P43 := (P43.from_ From.rfl_).grown hg311 (fun k hk => by have := hkw k hk; omega)
                                                                                                  replace hy := (hy.from_ From.rfl_).kept hg311 (fun k hk => by have := hkw k hk; omega)
                                                                                                  refine st_nil ?_
                                                                                                  refine nx_then ?_
                                                                                                  refine cd_seq ?_
                                                                                                  refine cd_region ?_
                                                                                                  refine st_val (ro_fieldAddr EntLaw9_f25_2 rfl) ?_
                                                                                                  refine st_val (ro_load EntLaw9_g23 rfl (by exact (P43.from_ From.rfl_).rd 2 rfl)) ?_
                                                                                                  have hky := own_lt ((hy.le hz255).from_ From.rfl_).own
                                                                                                  refine st_call EntLaw9_k34 (spoilEnts_any _ A34 n34 c34 _ _ ((hy.le hz255).from_ From.rfl_).own (by have := hy.len; rw [List.length_drop] at this; omega) ((((((((((((((((((((((hB.next E167).next E173).next E181).next E190).next E232).next E31).only O40 (hge hg31)).next E239).next E32).only O41 (hge hg32)).next E248).next E255).next E34).only O43 (hge hg34)).next E265).next E277).next E289).next E301).grew hg306 (fun k hk => (hku k hk).1)).grew hg309 (fun k hk => (hkv k hk).1)).grew hg311 (fun k hk => (hkw k hk).1))).size) ?_
                                                                                                  rintro v314 w90 hg314
                                                                                                  refine st_nil ?_
                                                                                                  refine nx_then ?_
                                                                                                  refine cd_seq ?_
                                                                                                  refine cd_region ?_
                                                                                                  refine st_val (ro_loadA (cs := [_, _, _]) EntLaw9_g25 EntLaw9_z25 rfl (by first | (first | exact (hP4.from_ ((((((((((((((((((((((hB.next E167).next E173).next E181).next E190).next E232).next E31).only O40 (hge hg31)).next E239).next E32).only O41 (hge hg32)).next E248).next E255).next E34).only O43 (hge hg34)).next E265).next E277).next E289).next E301).grew hg306 (fun k hk => (hku k hk).1)).grew hg309 (fun k hk => (hkv k hk).1)).grew hg311 (fun k hk => (hkw k hk).1)).grew hg314 (fun k hk => (hky k hk).1))).whole | exact (hP4.from_ ((((((((((((((((((((((hB.next E167).next E173).next E181).next E190).next E232).next E31).only O40 (hge hg31)).next E239).next E32).only O41 (hge hg32)).next E248).next E255).next E34).only O43 (hge hg34)).next E265).next E277).next E289).next E301).grew hg306 (fun k hk => (hku k hk).1)).grew hg309 (fun k hk => (hkv k hk).1)).grew hg311 (fun k hk => (hkw k hk).1)).grew hg314 (fun k hk => (hky k hk).1))).rd 0 rfl | exact (hP4.from_ ((((((((((((((((((((((hB.next E167).next E173).next E181).next E190).next E232).next E31).only O40 (hge hg31)).next E239).next E32).only O41 (hge hg32)).next E248).next E255).next E34).only O43 (hge hg34)).next E265).next E277).next E289).next E301).grew hg306 (fun k hk => (hku k hk).1)).grew hg309 (fun k hk => (hkv k hk).1)).grew hg311 (fun k hk => (hkw k hk).1)).grew hg314 (fun k hk => (hky k hk).1))).rd 1 rfl | exact (hP4.from_ ((((((((((((((((((((((hB.next E167).next E173).next E181).next E190).next E232).next E31).only O40 (hge hg31)).next E239).next E32).only O41 (hge hg32)).next E248).next E255).next E34).only O43 (hge hg34)).next E265).next E277).next E289).next E301).grew hg306 (fun k hk => (hku k hk).1)).grew hg309 (fun k hk => (hkv k hk).1)).grew hg311 (fun k hk => (hkw k hk).1)).grew hg314 (fun k hk => (hky k hk).1))).rd 2 rfl | exact (hP4.from_ ((((((((((((((((((((((hB.next E167).next E173).next E181).next E190).next E232).next E31).only O40 (hge hg31)).next E239).next E32).only O41 (hge hg32)).next E248).next E255).next E34).only O43 (hge hg34)).next E265).next E277).next E289).next E301).grew hg306 (fun k hk => (hku k hk).1)).grew hg309 (fun k hk => (hkv k hk).1)).grew hg311 (fun k hk => (hkw k hk).1)).grew hg314 (fun k hk => (hky k hk).1))).rd 3 rfl | exact (hP4.from_ ((((((((((((((((((((((hB.next E167).next E173).next E181).next E190).next E232).next E31).only O40 (hge hg31)).next E239).next E32).only O41 (hge hg32)).next E248).next E255).next E34).only O43 (hge hg34)).next E265).next E277).next E289).next E301).grew hg306 (fun k hk => (hku k hk).1)).grew hg309 (fun k hk => (hkv k hk).1)).grew hg311 (fun k hk => (hkw k hk).1)).grew hg314 (fun k hk => (hky k hk).1))).rd 4 rfl | exact (hP4.from_ ((((((((((((((((((((((hB.next E167).next E173).next E181).next E190).next E232).next E31).only O40 (hge hg31)).next E239).next E32).only O41 (hge hg32)).next E248).next E255).next E34).only O43 (hge hg34)).next E265).next E277).next E289).next E301).grew hg306 (fun k hk => (hku k hk).1)).grew hg309 (fun k hk => (hkv k hk).1)).grew hg311 (fun k hk => (hkw k hk).1)).grew hg314 (fun k hk => (hky k hk).1))).rd 5 rfl | exact (hP4.from_ ((((((((((((((((((((((hB.next E167).next E173).next E181).next E190).next E232).next E31).only O40 (hge hg31)).next E239).next E32).only O41 (hge hg32)).next E248).next E255).next E34).only O43 (hge hg34)).next E265).next E277).next E289).next E301).grew hg306 (fun k hk => (hku k hk).1)).grew hg309 (fun k hk => (hkv k hk).1)).grew hg311 (fun k hk => (hkw k hk).1)).grew hg314 (fun k hk => (hky k hk).1))).rd 6 rfl | exact (hP4.from_ ((((((((((((((((((((((hB.next E167).next E173).next E181).next E190).next E232).next E31).only O40 (hge hg31)).next E239).next E32).only O41 (hge hg32)).next E248).next E255).next E34).only O43 (hge hg34)).next E265).next E277).next E289).next E301).grew hg306 (fun k hk => (hku k hk).1)).grew hg309 (fun k hk => (hkv k hk).1)).grew hg311 (fun k hk => (hkw k hk).1)).grew hg314 (fun k hk => (hky k hk).1))).pre3 | exact (hP5.from_ ((((((((((((((((((((((hB.next E167).next E173).next E181).next E190).next E232).next E31).only O40 (hge hg31)).next E239).next E32).only O41 (hge hg32)).next E248).next E255).next E34).only O43 (hge hg34)).next E265).next E277).next E289).next E301).grew hg306 (fun k hk => (hku k hk).1)).grew hg309 (fun k hk => (hkv k hk).1)).grew hg311 (fun k hk => (hkw k hk).1)).grew hg314 (fun k hk => (hky k hk).1))).whole | exact (hP5.from_ ((((((((((((((((((((((hB.next E167).next E173).next E181).next E190).next E232).next E31).only O40 (hge hg31)).next E239).next E32).only O41 (hge hg32)).next E248).next E255).next E34).only O43 (hge hg34)).next E265).next E277).next E289).next E301).grew hg306 (fun k hk => (hku k hk).1)).grew hg309 (fun k hk => (hkv k hk).1)).grew hg311 (fun k hk => (hkw k hk).1)).grew hg314 (fun k hk => (hky k hk).1))).rd 0 rfl | exact (hP5.from_ ((((((((((((((((((((((hB.next E167).next E173).next E181).next E190).next E232).next E31).only O40 (hge hg31)).next E239).next E32).only O41 (hge hg32)).next E248).next E255).next E34).only O43 (hge hg34)).next E265).next E277).next E289).next E301).grew hg306 (fun k hk => (hku k hk).1)).grew hg309 (fun k hk => (hkv k hk).1)).grew hg311 (fun k hk => (hkw k hk).1)).grew hg314 (fun k hk => (hky k hk).1))).rd 1 rfl | exact (hP5.from_ ((((((((((((((((((((((hB.next E167).next E173).next E181).next E190).next E232).next E31).only O40 (hge hg31)).next E239).next E32).only O41 (hge hg32)).next E248).next E255).next E34).only O43 (hge hg34)).next E265).next E277).next E289).next E301).grew hg306 (fun k hk => (hku k hk).1)).grew hg309 (fun k hk => (hkv k hk).1)).grew hg311 (fun k hk => (hkw k hk).1)).grew hg314 (fun k hk => (hky k hk).1))).rd 2 rfl | exact (P4.from_ From.rfl_).whole | exact (P4.from_ From.rfl_).rd 0 rfl | exact (P4.from_ From.rfl_).rd 1 rfl | exact (P4.from_ From.rfl_).rd 2 rfl | exact (P4.from_ From.rfl_).rd 3 rfl | exact (P4.from_ From.rfl_).rd 4 rfl | exact (P4.from_ From.rfl_).rd 5 rfl | exact (P4.from_ From.rfl_).rd 6 rfl | exact (P4.from_ From.rfl_).pre3 | exact (P7.from_ From.rfl_).whole | exact (P7.from_ From.rfl_).rd 0 rfl | exact (P7.from_ From.rfl_).rd 1 rfl | exact (P7.from_ From.rfl_).rd 2 rfl))) ?_
                                                                                                  refine st_val (ro_fieldAddr EntLaw9_f27_0 rfl) ?_
                                                                                                  refine st_val (ro_loadA (cs := [_, _, _]) EntLaw9_g25 EntLaw9_z25 rfl (by first | (first | exact (hP4.from_ ((((((((((((((((((((((hB.next E167).next E173).next E181).next E190).next E232).next E31).only O40 (hge hg31)).next E239).next E32).only O41 (hge hg32)).next E248).next E255).next E34).only O43 (hge hg34)).next E265).next E277).next E289).next E301).grew hg306 (fun k hk => (hku k hk).1)).grew hg309 (fun k hk => (hkv k hk).1)).grew hg311 (fun k hk => (hkw k hk).1)).grew hg314 (fun k hk => (hky k hk).1))).whole | exact (hP4.from_ ((((((((((((((((((((((hB.next E167).next E173).next E181).next E190).next E232).next E31).only O40 (hge hg31)).next E239).next E32).only O41 (hge hg32)).next E248).next E255).next E34).only O43 (hge hg34)).next E265).next E277).next E289).next E301).grew hg306 (fun k hk => (hku k hk).1)).grew hg309 (fun k hk => (hkv k hk).1)).grew hg311 (fun k hk => (hkw k hk).1)).grew hg314 (fun k hk => (hky k hk).1))).rd 0 rfl | exact (hP4.from_ ((((((((((((((((((((((hB.next E167).next E173).next E181).next E190).next E232).next E31).only O40 (hge hg31)).next E239).next E32).only O41 (hge hg32)).next E248).next E255).next E34).only O43 (hge hg34)).next E265).next E277).next E289).next E301).grew hg306 (fun k hk => (hku k hk).1)).grew hg309 (fun k hk => (hkv k hk).1)).grew hg311 (fun k hk => (hkw k hk).1)).grew hg314 (fun k hk => (hky k hk).1))).rd 1 rfl | exact (hP4.from_ ((((((((((((((((((((((hB.next E167).next E173).next E181).next E190).next E232).next E31).only O40 (hge hg31)).next E239).next E32).only O41 (hge hg32)).next E248).next E255).next E34).only O43 (hge hg34)).next E265).next E277).next E289).next E301).grew hg306 (fun k hk => (hku k hk).1)).grew hg309 (fun k hk => (hkv k hk).1)).grew hg311 (fun k hk => (hkw k hk).1)).grew hg314 (fun k hk => (hky k hk).1))).rd 2 rfl | exact (hP4.from_ ((((((((((((((((((((((hB.next E167).next E173).next E181).next E190).next E232).next E31).only O40 (hge hg31)).next E239).next E32).only O41 (hge hg32)).next E248).next E255).next E34).only O43 (hge hg34)).next E265).next E277).next E289).next E301).grew hg306 (fun k hk => (hku k hk).1)).grew hg309 (fun k hk => (hkv k hk).1)).grew hg311 (fun k hk => (hkw k hk).1)).grew hg314 (fun k hk => (hky k hk).1))).rd 3 rfl | exact (hP4.from_ ((((((((((((((((((((((hB.next E167).next E173).next E181).next E190).next E232).next E31).only O40 (hge hg31)).next E239).next E32).only O41 (hge hg32)).next E248).next E255).next E34).only O43 (hge hg34)).next E265).next E277).next E289).next E301).grew hg306 (fun k hk => (hku k hk).1)).grew hg309 (fun k hk => (hkv k hk).1)).grew hg311 (fun k hk => (hkw k hk).1)).grew hg314 (fun k hk => (hky k hk).1))).rd 4 rfl | exact (hP4.from_ ((((((((((((((((((((((hB.next E167).next E173).next E181).next E190).next E232).next E31).only O40 (hge hg31)).next E239).next E32).only O41 (hge hg32)).next E248).next E255).next E34).only O43 (hge hg34)).next E265).next E277).next E289).next E301).grew hg306 (fun k hk => (hku k hk).1)).grew hg309 (fun k hk => (hkv k hk).1)).grew hg311 (fun k hk => (hkw k hk).1)).grew hg314 (fun k hk => (hky k hk).1))).rd 5 rfl | exact (hP4.from_ ((((((((((((((((((((((hB.next E167).next E173).next E181).next E190).next E232).next E31).only O40 (hge hg31)).next E239).next E32).only O41 (hge hg32)).next E248).next E255).next E34).only O43 (hge hg34)).next E265).next E277).next E289).next E301).grew hg306 (fun k hk => (hku k hk).1)).grew hg309 (fun k hk => (hkv k hk).1)).grew hg311 (fun k hk => (hkw k hk).1)).grew hg314 (fun k hk => (hky k hk).1))).rd 6 rfl | exact (hP4.from_ ((((((((((((((((((((((hB.next E167).next E173).next E181).next E190).next E232).next E31).only O40 (hge hg31)).next E239).next E32).only O41 (hge hg32)).next E248).next E255).next E34).only O43 (hge hg34)).next E265).next E277).next E289).next E301).grew hg306 (fun k hk => (hku k hk).1)).grew hg309 (fun k hk => (hkv k hk).1)).grew hg311 (fun k hk => (hkw k hk).1)).grew hg314 (fun k hk => (hky k hk).1))).pre3 | exact (hP5.from_ ((((((((((((((((((((((hB.next E167).next E173).next E181).next E190).next E232).next E31).only O40 (hge hg31)).next E239).next E32).only O41 (hge hg32)).next E248).next E255).next E34).only O43 (hge hg34)).next E265).next E277).next E289).next E301).grew hg306 (fun k hk => (hku k hk).1)).grew hg309 (fun k hk => (hkv k hk).1)).grew hg311 (fun k hk => (hkw k hk).1)).grew hg314 (fun k hk => (hky k hk).1))).whole | exact (hP5.from_ ((((((((((((((((((((((hB.next E167).next E173).next E181).next E190).next E232).next E31).only O40 (hge hg31)).next E239).next E32).only O41 (hge hg32)).next E248).next E255).next E34).only O43 (hge hg34)).next E265).next E277).next E289).next E301).grew hg306 (fun k hk => (hku k hk).1)).grew hg309 (fun k hk => (hkv k hk).1)).grew hg311 (fun k hk => (hkw k hk).1)).grew hg314 (fun k hk => (hky k hk).1))).rd 0 rfl | exact (hP5.from_ ((((((((((((((((((((((hB.next E167).next E173).next E181).next E190).next E232).next E31).only O40 (hge hg31)).next E239).next E32).only O41 (hge hg32)).next E248).next E255).next E34).only O43 (hge hg34)).next E265).next E277).next E289).next E301).grew hg306 (fun k hk => (hku k hk).1)).grew hg309 (fun k hk => (hkv k hk).1)).grew hg311 (fun k hk => (hkw k hk).1)).grew hg314 (fun k hk => (hky k hk).1))).rd 1 rfl | exact (hP5.from_ ((((((((((((((((((((((hB.next E167).next E173).next E181).next E190).next E232).next E31).only O40 (hge hg31)).next E239).next E32).only O41 (hge hg32)).next E248).next E255).next E34).only O43 (hge hg34)).next E265).next E277).next E289).next E301).grew hg306 (fun k hk => (hku k hk).1)).grew hg309 (fun k hk => (hkv k hk).1)).grew hg311 (fun k hk => (hkw k hk).1)).grew hg314 (fun k hk => (hky k hk).1))).rd 2 rfl | exact (P4.from_ From.rfl_).whole | exact (P4.from_ From.rfl_).rd 0 rfl | exact (P4.from_ From.rfl_).rd 1 rfl | exact (P4.from_ From.rfl_).rd 2 rfl | exact (P4.from_ From.rfl_).rd 3 rfl | exact (P4.from_ From.rfl_).rd 4 rfl | exact (P4.from_ From.rfl_).rd 5 rfl | exact (P4.from_ From.rfl_).rd 6 rfl | exact (P4.from_ From.rfl_).pre3 | exact (P7.from_ From.rfl_).whole | exact (P7.from_ From.rfl_).rd 0 rfl | exact (P7.from_ From.rfl_).rd 1 rfl | exact (P7.from_ From.rfl_).rd 2 rfl))) ?_
                                                                                                  refine st_call EntLaw9_k32 (Rt.of (eqLog_same B T _ _ xs _ (hX.from_ ((((((((((((((((((((((hB.next E167).next E173).next E181).next E190).next E232).next E31).only O40 (hge hg31)).next E239).next E32).only O41 (hge hg32)).next E248).next E255).next E34).only O43 (hge hg34)).next E265).next E277).next E289).next E301).grew hg306 (fun k hk => (hku k hk).1)).grew hg309 (fun k hk => (hkv k hk).1)).grew hg311 (fun k hk => (hkw k hk).1)).grew hg314 (fun k hk => (hky k hk).1))) (hat.log.from_ (hB0.next ((((((((((((((((((((((hB.next E167).next E173).next E181).next E190).next E232).next E31).only O40 (hge hg31)).next E239).next E32).only O41 (hge hg32)).next E248).next E255).next E34).only O43 (hge hg34)).next E265).next E277).next E289).next E301).grew hg306 (fun k hk => (hku k hk).1)).grew hg309 (fun k hk => (hkv k hk).1)).grew hg311 (fun k hk => (hkw k hk).1)).grew hg314 (fun k hk => (hky k hk).1)))) (by omega))) ?_
                                                                                                  rintro v318 w91 ⟨rfl, E318⟩
                                                                                                  refine st_val (ro_not rfl) ?_
                                                                                                  refine st_val (ro_move (v := .bool _) rfl) ?_
                                                                                                  refine st_split (t := 320) rfl (fun Q92 => ?_) (fun Q92 => ?_)
                                                                                                  · (try first | replace Q92 := bn_t Q92 | replace Q92 := bn_f Q92)
                                                                                                    (try first | replace Q92 := bx_t Q92 | replace Q92 := bx_f Q92 | replace Q92 := be_t Q92 | replace Q92 := be_f Q92 | replace Q92 := of_decide_eq_true Q92 | replace Q92 := of_decide_eq_false Q92)
                                                                                                    first
                                                                                                     | (exfalso; first | omega | contradiction | (cases Q92; done))
                                                                                                     | skip
                                                                                                       refine st_gno rfl rfl ?_
                                                                                                       refine st_gno rfl rfl ?_
                                                                                                       refine st_gno rfl rfl ?_
                                                                                                       refine st_gno rfl rfl ?_
                                                                                                       refine st_gno rfl rfl ?_
                                                                                                       refine st_val (ro_pickT (v := .bool _) rfl rfl) ?_
                                                                                                       refine st_nil ?_
                                                                                                       refine nx_then ?_
                                                                                                       refine cd_condT rfl ?_
                                                                                                       refine cd_seq ?_
                                                                                                       refine cd_region ?_
                                                                                                       refine st_val (ro_assign (v := .bool _) rfl) ?_
                                                                                                       refine st_nil ?_
                                                                                                       refine nx_then ?_
                                                                                                       refine cd_ret ?_
                                                                                                       refine rt_block ?_
                                                                                                       refine rt_then ?_
                                                                                                       refine rt_then ?_
                                                                                                       refine rt_block ?_
                                                                                                       refine rt_then ?_
                                                                                                       refine res1 (v := .bool _) rfl rfl ?_
                                                                                                       exact ⟨rfl, (((((((((((((((((((((((hB.next E167).next E173).next E181).next E190).next E232).next E31).only O40 (hge hg31)).next E239).next E32).only O41 (hge hg32)).next E248).next E255).next E34).only O43 (hge hg34)).next E265).next E277).next E289).next E301).grew hg306 (fun k hk => (hku k hk).1)).grew hg309 (fun k hk => (hkv k hk).1)).grew hg311 (fun k hk => (hkw k hk).1)).grew hg314 (fun k hk => (hky k hk).1)).next E318)⟩
                                                                                                  · (try first | replace Q92 := bn_t Q92 | replace Q92 := bn_f Q92)
                                                                                                    (try first | replace Q92 := bx_t Q92 | replace Q92 := bx_f Q92 | replace Q92 := be_t Q92 | replace Q92 := be_f Q92 | replace Q92 := of_decide_eq_true Q92 | replace Q92 := of_decide_eq_false Q92)
                                                                                                    first
                                                                                                     | (exfalso; first | omega | contradiction | (cases Q92; done))
                                                                                                     | skip
                                                                                                       refine st_unguard rfl ?_
                                                                                                       refine st_val (ro_move (v := .slice _ _ _) rfl) ?_
                                                                                                       refine st_unguard rfl ?_
                                                                                                       refine st_val (ro_fieldAddr EntLaw9_f27_3 rfl) ?_
                                                                                                       refine st_unguard rfl ?_
                                                                                                       refine st_val (ro_load EntLaw9_g23 rfl (by first | (first | exact (hP4.from_ (((((((((((((((((((((((hB.next E167).next E173).next E181).next E190).next E232).next E31).only O40 (hge hg31)).next E239).next E32).only O41 (hge hg32)).next E248).next E255).next E34).only O43 (hge hg34)).next E265).next E277).next E289).next E301).grew hg306 (fun k hk => (hku k hk).1)).grew hg309 (fun k hk => (hkv k hk).1)).grew hg311 (fun k hk => (hkw k hk).1)).grew hg314 (fun k hk => (hky k hk).1)).next E318)).whole | exact (hP4.from_ (((((((((((((((((((((((hB.next E167).next E173).next E181).next E190).next E232).next E31).only O40 (hge hg31)).next E239).next E32).only O41 (hge hg32)).next E248).next E255).next E34).only O43 (hge hg34)).next E265).next E277).next E289).next E301).grew hg306 (fun k hk => (hku k hk).1)).grew hg309 (fun k hk => (hkv k hk).1)).grew hg311 (fun k hk => (hkw k hk).1)).grew hg314 (fun k hk => (hky k hk).1)).next E318)).rd 0 rfl | exact (hP4.from_ (((((((((((((((((((((((hB.next E167).next E173).next E181).next E190).next E232).next E31).only O40 (hge hg31)).next E239).next E32).only O41 (hge hg32)).next E248).next E255).next E34).only O43 (hge hg34)).next E265).next E277).next E289).next E301).grew hg306 (fun k hk => (hku k hk).1)).grew hg309 (fun k hk => (hkv k hk).1)).grew hg311 (fun k hk => (hkw k hk).1)).grew hg314 (fun k hk => (hky k hk).1)).next E318)).rd 1 rfl | exact (hP4.from_ (((((((((((((((((((((((hB.next E167).next E173).next E181).next E190).next E232).next E31).only O40 (hge hg31)).next E239).next E32).only O41 (hge hg32)).next E248).next E255).next E34).only O43 (hge hg34)).next E265).next E277).next E289).next E301).grew hg306 (fun k hk => (hku k hk).1)).grew hg309 (fun k hk => (hkv k hk).1)).grew hg311 (fun k hk => (hkw k hk).1)).grew hg314 (fun k hk => (hky k hk).1)).next E318)).rd 2 rfl | exact (hP4.from_ (((((((((((((((((((((((hB.next E167).next E173).next E181).next E190).next E232).next E31).only O40 (hge hg31)).next E239).next E32).only O41 (hge hg32)).next E248).next E255).next E34).only O43 (hge hg34)).next E265).next E277).next E289).next E301).grew hg306 (fun k hk => (hku k hk).1)).grew hg309 (fun k hk => (hkv k hk).1)).grew hg311 (fun k hk => (hkw k hk).1)).grew hg314 (fun k hk => (hky k hk).1)).next E318)).rd 3 rfl | exact (hP4.from_ (((((((((((((((((((((((hB.next E167).next E173).next E181).next E190).next E232).next E31).only O40 (hge hg31)).next E239).next E32).only O41 (hge hg32)).next E248).next E255).next E34).only O43 (hge hg34)).next E265).next E277).next E289).next E301).grew hg306 (fun k hk => (hku k hk).1)).grew hg309 (fun k hk => (hkv k hk).1)).grew hg311 (fun k hk => (hkw k hk).1)).grew hg314 (fun k hk => (hky k hk).1)).next E318)).rd 4 rfl | exact (hP4.from_ (((((((((((((((((((((((hB.next E167).next E173).next E181).next E190).next E232).next E31).only O40 (hge hg31)).next E239).next E32).only O41 (hge hg32)).next E248).next E255).next E34).only O43 (hge hg34)).next E265).next E277).next E289).next E301).grew hg306 (fun k hk => (hku k hk).1)).grew hg309 (fun k hk => (hkv k hk).1)).grew hg311 (fun k hk => (hkw k hk).1)).grew hg314 (fun k hk => (hky k hk).1)).next E318)).rd 5 rfl | exact (hP4.from_ (((((((((((((((((((((((hB.next E167).next E173).next E181).next E190).next E232).next E31).only O40 (hge hg31)).next E239).next E32).only O41 (hge hg32)).next E248).next E255).next E34).only O43 (hge hg34)).next E265).next E277).next E289).next E301).grew hg306 (fun k hk => (hku k hk).1)).grew hg309 (fun k hk => (hkv k hk).1)).grew hg311 (fun k hk => (hkw k hk).1)).grew hg314 (fun k hk => (hky k hk).1)).next E318)).rd 6 rfl | exact (hP4.from_ (((((((((((((((((((((((hB.next E167).next E173).next E181).next E190).next E232).next E31).only O40 (hge hg31)).next E239).next E32).only O41 (hge hg32)).next E248).next E255).next E34).only O43 (hge hg34)).next E265).next E277).next E289).next E301).grew hg306 (fun k hk => (hku k hk).1)).grew hg309 (fun k hk => (hkv k hk).1)).grew hg311 (fun k hk => (hkw k hk).1)).grew hg314 (fun k hk => (hky k hk).1)).next E318)).pre3 | exact (hP5.from_ (((((((((((((((((((((((hB.next E167).next E173).next E181).next E190).next E232).next E31).only O40 (hge hg31)).next E239).next E32).only O41 (hge hg32)).next E248).next E255).next E34).only O43 (hge hg34)).next E265).next E277).next E289).next E301).grew hg306 (fun k hk => (hku k hk).1)).grew hg309 (fun k hk => (hkv k hk).1)).grew hg311 (fun k hk => (hkw k hk).1)).grew hg314 (fun k hk => (hky k hk).1)).next E318)).whole | exact (hP5.from_ (((((((((((((((((((((((hB.next E167).next E173).next E181).next E190).next E232).next E31).only O40 (hge hg31)).next E239).next E32).only O41 (hge hg32)).next E248).next E255).next E34).only O43 (hge hg34)).next E265).next E277).next E289).next E301).grew hg306 (fun k hk => (hku k hk).1)).grew hg309 (fun k hk => (hkv k hk).1)).grew hg311 (fun k hk => (hkw k hk).1)).grew hg314 (fun k hk => (hky k hk).1)).next E318)).rd 0 rfl | exact (hP5.from_ (((((((((((((((((((((((hB.next E167).next E173).next E181).next E190).next E232).next E31).only O40 (hge hg31)).next E239).next E32).only O41 (hge hg32)).next E248).next E255).next E34).only O43 (hge hg34)).next E265).next E277).next E289).next E301).grew hg306 (fun k hk => (hku k hk).1)).grew hg309 (fun k hk => (hkv k hk).1)).grew hg311 (fun k hk => (hkw k hk).1)).grew hg314 (fun k hk => (hky k hk).1)).next E318)).rd 1 rfl | exact (hP5.from_ (((((((((((((((((((((((hB.next E167).next E173).next E181).next E190).next E232).next E31).only O40 (hge hg31)).next E239).next E32).only O41 (hge hg32)).next E248).next E255).next E34).only O43 (hge hg34)).next E265).next E277).next E289).next E301).grew hg306 (fun k hk => (hku k hk).1)).grew hg309 (fun k hk => (hkv k hk).1)).grew hg311 (fun k hk => (hkw k hk).1)).grew hg314 (fun k hk => (hky k hk).1)).next E318)).rd 2 rfl | exact (P4.from_ (From.rfl_.next E318)).whole | exact (P4.from_ (From.rfl_.next E318)).rd 0 rfl | exact (P4.from_ (From.rfl_.next E318)).rd 1 rfl | exact (P4.from_ (From.rfl_.next E318)).rd 2 rfl | exact (P4.from_ (From.rfl_.next E318)).rd 3 rfl | exact (P4.from_ (From.rfl_.next E318)).rd 4 rfl | exact (P4.from_ (From.rfl_.next E318)).rd 5 rfl | exact (P4.from_ (From.rfl_.next E318)).rd 6 rfl | exact (P4.from_ (From.rfl_.next E318)).pre3 | exact (P7.from_ (From.rfl_.next E318)).whole | exact (P7.from_ (From.rfl_.next E318)).rd 0 rfl | exact (P7.from_ (From.rfl_.next E318)).rd 1 rfl | exact (P7.from_ (From.rfl_.next E318)).rd 2 rfl))) ?_
                                                                                                       refine st_unguard rfl ?_
                                                                                                       refine st_call EntLaw9_k33 (Rt.of (eqEntries_same _ _ es _ (hS.from_ (((((((((((((((((((((((hB.next E167).next E173).next E181).next E190).next E232).next E31).only O40 (hge hg31)).next E239).next E32).only O41 (hge hg32)).next E248).next E255).next E34).only O43 (hge hg34)).next E265).next E277).next E289).next E301).grew hg306 (fun k hk => (hku k hk).1)).grew hg309 (fun k hk => (hkv k hk).1)).grew hg311 (fun k hk => (hkw k hk).1)).grew hg314 (fun k hk => (hky k hk).1)).next E318)) (hat.ent.from_ (hB0.next (((((((((((((((((((((((hB.next E167).next E173).next E181).next E190).next E232).next E31).only O40 (hge hg31)).next E239).next E32).only O41 (hge hg32)).next E248).next E255).next E34).only O43 (hge hg34)).next E265).next E277).next E289).next E301).grew hg306 (fun k hk => (hku k hk).1)).grew hg309 (fun k hk => (hkv k hk).1)).grew hg311 (fun k hk => (hkw k hk).1)).grew hg314 (fun k hk => (hky k hk).1)).next E318))) (by omega))) ?_
                                                                                                       rintro v324 w93 ⟨rfl, E324⟩
                                                                                                       refine st_unguard rfl ?_
                                                                                                       refine st_val (ro_not rfl) ?_
                                                                                                       refine st_val (ro_pickF (v := .bool _) rfl rfl) ?_
                                                                                                       refine st_nil ?_
                                                                                                       refine nx_then ?_
                                                                                                       refine cd_cond rfl (fun Q94 => ?_) (fun Q94 => ?_)
                                                                                                       · (try first | replace Q94 := bn_t Q94 | replace Q94 := bn_f Q94)
                                                                                                         (try first | replace Q94 := bx_t Q94 | replace Q94 := bx_f Q94 | replace Q94 := be_t Q94 | replace Q94 := be_f Q94 | replace Q94 := of_decide_eq_true Q94 | replace Q94 := of_decide_eq_false Q94)
                                                                                                         first
                                                                                                          | (exfalso; first | omega | contradiction | (cases Q94; done))
                                                                                                          | skip
                                                                                                            refine cd_seq ?_
                                                                                                            refine cd_region ?_
                                                                                                            refine st_val (ro_assign (v := .bool _) rfl) ?_
                                                                                                            refine st_nil ?_
                                                                                                            refine nx_then ?_
                                                                                                            refine cd_ret ?_
                                                                                                            refine rt_block ?_
                                                                                                            refine rt_then ?_
                                                                                                            refine rt_then ?_
                                                                                                            refine rt_block ?_
                                                                                                            refine rt_then ?_
                                                                                                            refine res1 (v := .bool _) rfl rfl ?_
                                                                                                            exact ⟨rfl, ((((((((((((((((((((((((hB.next E167).next E173).next E181).next E190).next E232).next E31).only O40 (hge hg31)).next E239).next E32).only O41 (hge hg32)).next E248).next E255).next E34).only O43 (hge hg34)).next E265).next E277).next E289).next E301).grew hg306 (fun k hk => (hku k hk).1)).grew hg309 (fun k hk => (hkv k hk).1)).grew hg311 (fun k hk => (hkw k hk).1)).grew hg314 (fun k hk => (hky k hk).1)).next E318).next E324)⟩
                                                                                                       · (try first | replace Q94 := bn_t Q94 | replace Q94 := bn_f Q94)
                                                                                                         (try first | replace Q94 := bx_t Q94 | replace Q94 := bx_f Q94 | replace Q94 := be_t Q94 | replace Q94 := be_f Q94 | replace Q94 := of_decide_eq_true Q94 | replace Q94 := of_decide_eq_false Q94)
                                                                                                         first
                                                                                                          | (exfalso; first | omega | contradiction | (cases Q94; done))
                                                                                                          | skip
                                                                                                            refine cd_skip ?_
                                                                                                            refine nx_block ?_
                                                                                                            refine nx_then ?_
                                                                                                            refine cd_region ?_
                                                                                                            refine st_val (ro_move (v := .int _ _) rfl) ?_
                                                                                                            refine st_val (ro_addN (b := 1) rfl rfl (by omega)) ?_
                                                                                                            refine st_val (ro_assign (v := .int _ _) rfl) ?_
                                                                                                            refine st_nil ?_
                                                                                                            refine nx_cut (k + 1) ⟨(by first | rfl | (refine int_eq ?_; omega)), trivial⟩ (by (iterate 679 refine agr_cons rfl ?_); exact agr_rfl) ⟨?_, ?_⟩
                                                                                                            · exact ⟨by omega, hB0.next ((((((((((((((((((((((((hB.next E167).next E173).next E181).next E190).next E232).next E31).only O40 (hge hg31)).next E239).next E32).only O41 (hge hg32)).next E248).next E255).next E34).only O43 (hge hg34)).next E265).next E277).next E289).next E301).grew hg306 (fun k hk => (hku k hk).1)).grew hg309 (fun k hk => (hkv k hk).1)).grew hg311 (fun k hk => (hkw k hk).1)).grew hg314 (fun k hk => (hky k hk).1)).next E318).next E324)⟩
                                                                                                            · omega
       · (try first | replace Q3 := bn_t Q3 | replace Q3 := bn_f Q3)
         (try first | replace Q3 := bx_t Q3 | replace Q3 := bx_f Q3 | replace Q3 := be_t Q3 | replace Q3 := be_f Q3 | replace Q3 := of_decide_eq_true Q3 | replace Q3 := of_decide_eq_false Q3)
         first
          | (exfalso; first | omega | contradiction | (cases Q3; done))
          | skip
            refine cd_exit ?_
            refine ex_then ?_
            refine ex_then ?_
            refine ex_block ?_
            refine nx_then ?_
            refine cd_seq ?_
            refine cd_region ?_
            refine st_call EntLaw9_k35 (Rt.of (wakes_any _)) ?_
            rintro v327 w95 ⟨rfl, E327⟩
            refine st_val (ro_assign (v := .bool _) rfl) ?_
            refine st_nil ?_
            refine nx_then ?_
            refine cd_ret ?_
            refine res1 (v := .bool _) rfl rfl ?_
            exact ⟨rfl, (hB.next E327)⟩
  · (try first | replace Q2 := bn_t Q2 | replace Q2 := bn_f Q2)
    (try first | replace Q2 := bx_t Q2 | replace Q2 := bx_f Q2 | replace Q2 := be_t Q2 | replace Q2 := be_f Q2 | replace Q2 := of_decide_eq_true Q2 | replace Q2 := of_decide_eq_false Q2)
    first
     | (exfalso; first | omega | contradiction | (cases Q2; done))
     | skip
       refine st_gno rfl rfl ?_
       refine st_gno rfl rfl ?_
       refine st_val (ro_pickF (v := .bool _) rfl rfl) ?_
       refine st_nil ?_
       refine nx_then ?_
       refine cd_condF rfl ?_
       refine cd_exit ?_
       refine ex_then ?_
       refine ex_then ?_
       refine ex_block ?_
       refine nx_then ?_
       refine cd_seq ?_
       refine cd_region ?_
       refine st_call EntLaw9_k35 (Rt.of (wakes_any _)) ?_
       rintro v327 w96 ⟨rfl, E327⟩
       refine st_val (ro_assign (v := .bool _) rfl) ?_
       refine st_nil ?_
       refine nx_then ?_
       refine cd_ret ?_
       refine res1 (v := .bool _) rfl rfl ?_
       exact ⟨rfl, (hB.next E327)⟩
set_option maxRecDepth 100000 in
theorem EntriesExact_lifted (os : Os) (started : os.Started) (H : Type) (enc : TypeId × Value → H) :
    ReturnsInHanded {} Try.checked os 3 .any (Rows.entriesExactSpec.pre6 enc Try.prog Try.f3 Rows.entriesExactRow.domain false) (Rows.entriesExactSpec.post enc Try.prog Try.f3 false true false false) := by
  refine returnsInHanded_of_change_sized (C := Try.checked) Try.own started (by kernel_rfl) Try.func3
    (ChangeSpec.witness6 (enc := enc) (C := Try.checked) false ⟨#[], #[.slice none 0 0], []⟩ 8 (by kernel_rfl) (by kernel_rfl) (by kernel_rfl) (by kernel_rfl)) ?_
  intro W base args ds gs before hval hW _ hsz _
  exact law_step 3 Try.f3 22 4 Rows.entriesExactSpec Try.params3 (by kernel_rfl) Try.underlying4 rfl (fun _ => rfl) (by kernel_rfl) (of_decide_eq_true (by kernel_rfl)) (walk_rt exact_law) W base args ds gs before hval hW hsz

theorem EntriesExact_holds : Rows.EntriesExactSaid :=
  OpenClaim.holds_of_wide 3 Try.f3 rfl rfl rfl rfl rfl rfl rfl ⟨rfl, rfl, rfl, rfl, rfl⟩ rfl rfl rfl rfl rfl (by kernel_rfl) Try.func3 (by kernel_rfl)
    (of_decide_eq_true (by kernel_rfl)) (by unfold Func.isWrapper; first | (rw [if_pos (by decide +kernel)]; kernel_rfl) | (rw [if_neg (by decide +kernel)]; exact ⟨rfl, rfl⟩))
    (fun os started H enc _ => EntriesExact_lifted os started H enc)
#print axioms EntriesExact_holds

end Go.Proofs.Ytnnknoohhoifbaa
