/- Walks of the statements' helpers over package entries. -/
import Derived.Test.YtnnknoohhoifbaaEntArg
import Derived.Test.YtnnknoohhoifbaaEntAppend2
namespace Go.Proofs.Ytnnknoohhoifbaa
open Go.ChangeShapes Go.WideShapes Go.ChangeAt Go.RowKit

def LwRel (w : World) (xs : List Ent) (n i : Value) (wr : World) : Prop :=
  ∃ j m : Nat, j ≤ xs.length ∧ i = .int .i64 j ∧ n = .int .i64 m ∧ m ≤ 281476000000000 ∧ From w wr
set_option maxRecDepth 100000 in
set_option maxHeartbeats 1000000 in
theorem logweight_any (v : Value) (xs : List Ent) (w : World) (h : Ents w v xs) (hok : ∀ e ∈ xs, e.Ok) (hlen : xs.length * 32 ≤ 140737488351232) :
    Calls Try.prog 38 #[v] w fun e w' => ∃ r : Nat, e = .returned (.int .i64 r) ∧ r ≤ 281476000000000 ∧ From w w' := by
  obtain ⟨A, cap, rfl, hc1, hc2, hc3, hrow⟩ := h
  go_enter Try.func38, Try.ntmps38
  go_wp2
  go_loopw [3, 4] (LwRel w xs) (fun _ i _ => xs.length - (intOf i).toNat)
  case atStart => exact ⟨0, xs.length, by omega, rfl, rfl, by omega, From.rfl_⟩
  case round =>
    obtain ⟨j, m, hj, rfl, rfl, hmb, hw⟩ := hrel
    by_cases hlt : j < xs.length
    · by_cases hm20 : m < 1048576
      · obtain ⟨b, o, rfl, hb, hc⟩ := hrow (by omega)
        obtain ⟨c1, c2, c3⟩ := hc j hlt
        have d3 : ∀ w', From w w' → w'.cell? ⟨b, o + j * 3 + 2, none⟩ = some (.string xs[j].d) := fun w' h => (h.cells b _ hb).trans c3
        have s1 := (hok _ (List.getElem_mem hlt)).2.2.2.2
        have hd : decide ((m : Int) < 1048576) = true := by simp; omega
        have hm3 : (m : Int) ≤ 1048576 := by omega
        have HM20 := Lib.hid hm20
        clear hm20 hmb
        have i1 : (0 : Int) ≤ (j : Int) := by omega
        have i2 : (j : Int) < (xs.length : Int) := by omega
        clear hc c1 c2 c3 hrow
        generalize xs[j].d = a1 at *
        go_wp2
        go_roundw
        case rel => exact ⟨j + 1, m + a1.size, by omega, by go_num, by go_num, by have := HM20.out; omega, hw⟩
        case measure => simp [intOf]; omega
      · have hd : decide ((m : Int) < 1048576) = false := by simp; omega
        have HMB := Lib.hid hmb
        clear hm20 hmb
        go_wp2
        go_ret
        exact ⟨m, rfl, HMB.out, hw⟩
    · have HMB := Lib.hid hmb
      clear hmb
      go_wp2
      go_ret
      exact ⟨m, rfl, HMB.out, hw⟩

abbrev askCells (B T : Int) (V : Value) (I M : Int) (E : Value) (N : Int) : Array Value := #[.int .i64 B, .int .i64 T, V, .int .i64 I, .int .i64 M, E, .int .i64 N]
theorem box_ask {w : World} {B T I M N : Int} {V E : Value} {t : TypeId} :
    ((∀ w', From (w.alloc (.cells (askCells B T V I M E N) t)) w' → w'.cell? ⟨w.heap.size, 0, none⟩ = some (.int .i64 B)) ∧
    (∀ w', From (w.alloc (.cells (askCells B T V I M E N) t)) w' → w'.cell? ⟨w.heap.size, 1, none⟩ = some (.int .i64 T)) ∧
    (∀ w', From (w.alloc (.cells (askCells B T V I M E N) t)) w' → w'.cell? ⟨w.heap.size, 2, none⟩ = some V)) ∧
    ((∀ w', From (w.alloc (.cells (askCells B T V I M E N) t)) w' → w'.cell? ⟨w.heap.size, 3, none⟩ = some (.int .i64 I)) ∧
    (∀ w', From (w.alloc (.cells (askCells B T V I M E N) t)) w' → w'.cell? ⟨w.heap.size, 4, none⟩ = some (.int .i64 M)) ∧
    (∀ w', From (w.alloc (.cells (askCells B T V I M E N) t)) w' → w'.cell? ⟨w.heap.size, 5, none⟩ = some E) ∧
    (∀ w', From (w.alloc (.cells (askCells B T V I M E N) t)) w' → w'.cell? ⟨w.heap.size, 6, none⟩ = some (.int .i64 N))) ∧
    From (w.alloc (.cells (askCells B T V I M E N) t)) (w.alloc (.cells (askCells B T V I M E N) t)) ∧ From w (w.alloc (.cells (askCells B T V I M E N) t)) := by
  refine ⟨⟨?_, ?_, ?_⟩, ⟨?_, ?_, ?_, ?_⟩, From.rfl_, From.rfl_.new _⟩
  · exact fun w' h => by rw [((Blk.new w t (askCells B T V I M E N)).from_ h).cell 0]; rfl
  · exact fun w' h => by rw [((Blk.new w t (askCells B T V I M E N)).from_ h).cell 1]; rfl
  · exact fun w' h => by rw [((Blk.new w t (askCells B T V I M E N)).from_ h).cell 2]; rfl
  · exact fun w' h => by rw [((Blk.new w t (askCells B T V I M E N)).from_ h).cell 3]; rfl
  · exact fun w' h => by rw [((Blk.new w t (askCells B T V I M E N)).from_ h).cell 4]; rfl
  · exact fun w' h => by rw [((Blk.new w t (askCells B T V I M E N)).from_ h).cell 5]; rfl
  · exact fun w' h => by rw [((Blk.new w t (askCells B T V I M E N)).from_ h).cell 6]; rfl

set_option maxRecDepth 100000 in
set_option maxHeartbeats 1000000 in
theorem heavy_any (B T I M N : Int) (V E : Value) (xs es : List Ent) (w : World) (h : Ents w V xs) (he : Ents w E es) (hok : ∀ e ∈ xs, e.Ok) (hlen : xs.length * 32 ≤ 140737488351232) (hok2 : ∀ e ∈ es, e.Ok) (hlen2 : es.length * 32 ≤ 140737488351232) :
    Calls Try.prog 12 #[.agg (askCells B T V I M E N)] w fun e w' => ∃ b : Bool, e = .returned (.bool b) ∧ (b = false → xs.length ≤ 600 ∧ es.length ≤ 600) ∧ From w w' := by
  obtain ⟨⟨f0, f1, f2⟩, ⟨f3, f4, f5, f6⟩, hbb, hwb⟩ := box_ask (w := w) (B := B) (T := T) (V := V) (I := I) (M := M) (E := E) (N := N) (t := 27)
  simp only [askCells] at f0 f1 f2 f3 f4 f5 f6 hbb hwb ⊢
  have hl1 := fun w' (hw : From w w') => logweight_any V xs w' (h.from_ hw) hok hlen
  have hl2 := fun w' (hw : From w w') => logweight_any E es w' (he.from_ hw) hok2 hlen2
  have H1 := Lib.hid hl1
  have H2 := Lib.hid hl2
  obtain ⟨A, cap, rfl, -⟩ := h
  obtain ⟨A2, cap2, rfl, -⟩ := he
  clear hl1 hl2
  go_enter Try.func12, Try.ntmps12
  go_wp2_with fail
  refine (H1.out _ hwb).mono ?_
  rintro e w1 ⟨r1, rfl, hr1, hb1⟩
  have hw1 := hwb.next hb1
  have hbw1 := hbb.next hb1
  by_cases h1 : 6000 < r1
  · have e1 : decide ((6000 : Int) < (r1 : Int)) = true := by simp; omega
    go_wp2
    go_ret
    exact ⟨true, rfl, by simp, hw1⟩
  · have e1 : decide ((6000 : Int) < (r1 : Int)) = false := by simp; omega
    go_wp2_with fail
    refine (H2.out _ hw1).mono ?_
    rintro e w2 ⟨r2, rfl, hr2, hb2⟩
    have hw2 := hw1.next hb2
    have hbw2 := hbw1.next hb2
    by_cases h2 : 6000 < r2
    · have e2 : decide ((6000 : Int) < (r2 : Int)) = true := by simp; omega
      go_wp2
      go_ret
      exact ⟨true, rfl, by simp, hw2⟩
    · have e2 : decide ((6000 : Int) < (r2 : Int)) = false := by simp; omega
      by_cases h3 : 600 < xs.length
      · have e3 : decide ((600 : Int) < (xs.length : Int)) = true := by simp; omega
        go_wp2
        go_ret
        exact ⟨true, rfl, by simp, hw2⟩
      · have e3 : decide ((600 : Int) < (xs.length : Int)) = false := by simp; omega
        by_cases h4 : 600 < es.length
        · have e4 : decide ((600 : Int) < (es.length : Int)) = true := by simp; omega
          go_wp2
          go_ret
          exact ⟨true, rfl, by simp, hw2⟩
        · have e4 : decide ((600 : Int) < (es.length : Int)) = false := by simp; omega
          have H5 := Lib.hid (And.intro h3 h4)
          clear h3 h4
          go_wp2
          go_ret
          exact ⟨false, rfl, fun _ => by have := H5.out; omega, hw2⟩

set_option maxRecDepth 100000 in
set_option maxHeartbeats 1000000 in
theorem ok_any (B T I M N : Int) (V E : Value) (xs es : List Ent) (w : World) (h : Ents w V xs) (he : Ents w E es) (hok : ∀ e ∈ xs, e.Ok) (hlen : xs.length * 32 ≤ 140737488351232) (hok2 : ∀ e ∈ es, e.Ok) (hlen2 : es.length * 32 ≤ 140737488351232) :
    Calls Try.prog 37 #[.agg (askCells B T V I M E N)] w fun e w' => ∃ b : Bool, e = .returned (.bool b) ∧ (b = true → mayLog B T xs = true ∧ xs.length < 200 ∧ es.length ≤ 600) ∧ From w w' := by
  obtain ⟨⟨f0, f1, f2⟩, ⟨f3, f4, f5, f6⟩, hbb, hwb⟩ := box_ask (w := w) (B := B) (T := T) (V := V) (I := I) (M := M) (E := E) (N := N) (t := 27)
  have hhv := fun w' (hw : From w w') => heavy_any B T I M N V E xs es w' (h.from_ hw) (he.from_ hw) hok hlen hok2 hlen2
  have hma := fun w' (hw : From w w') => may_any B T V xs w' (h.from_ hw)
  simp only [askCells] at f0 f1 f2 f3 f4 f5 f6 hbb hwb hhv ⊢
  have HH := Lib.hid hhv
  have HM := Lib.hid hma
  obtain ⟨A, cap, rfl, -⟩ := h
  obtain ⟨A2, cap2, rfl, -⟩ := he
  clear hhv hma
  go_enter Try.func37, Try.ntmps37
  go_wp2_with fail
  refine (HH.out _ hwb).mono ?_
  rintro e w1 ⟨h, rfl, hlight, hb1⟩
  have hw1 := hwb.next hb1
  have hbw1 := hbb.next hb1
  cases h with
  | true =>
    go_wp2
    go_ret
    exact ⟨false, rfl, by simp, hw1⟩
  | false =>
    have hli := hlight rfl
    clear hlight
    by_cases h3 : xs.length < 200
    · have e3 : decide ((xs.length : Int) < 200) = true := by simp; omega
      have H5 := Lib.hid (And.intro h3 hli.2)
      clear h3 hli
      go_wp2_with (go_at_call 15; (with_reducible refine (HM.out _ hw1).mono ?_); rintro e w2 ⟨rfl, hb2⟩)
      go_ret
      exact ⟨_, rfl, fun hm => ⟨hm, H5.out⟩, hw1.next hb2⟩
    · have e3 : decide ((xs.length : Int) < 200) = false := by simp; omega
      clear h3 hli
      go_wp2
      go_ret
      exact ⟨false, rfl, by simp, hw1⟩

abbrev AskTy : Ty := .pr (.pr (.int .i64) (.pr (.int .i64) (.pr (.sl EntTy) .unit))) (.pr (.int .i64) (.pr (.int .i64) (.pr (.sl EntTy) (.pr (.int .i64) .unit))))
theorem ask_fits : (Ty.sl AskTy).fits Try.prog (.inl 22) = true := by kernel_rfl
structure AskAt (w : World) (b o : Nat) (B T I M N : Int) (V E : Value) (xs es : List Ent) : Prop where
  c0 : w.cell? ⟨b, o, none⟩ = some (.int .i64 B)
  c1 : w.cell? ⟨b, o + 1, none⟩ = some (.int .i64 T)
  c2 : w.cell? ⟨b, o + 2, none⟩ = some V
  c3 : w.cell? ⟨b, o + 3, none⟩ = some (.int .i64 I)
  c4 : w.cell? ⟨b, o + 4, none⟩ = some (.int .i64 M)
  c5 : w.cell? ⟨b, o + 5, none⟩ = some E
  c6 : w.cell? ⟨b, o + 6, none⟩ = some (.int .i64 N)
  log : Ents w V xs
  lok : ∀ e ∈ xs, e.Ok
  llen : xs.length * 32 ≤ 140737488351232
  ent : Ents w E es
  eok : ∀ e ∈ es, e.Ok
  elen : es.length * 32 ≤ 140737488351232
  i0 : -9223372036854775808 ≤ I ∧ I ≤ 9223372036854775807
  m0 : -9223372036854775808 ≤ M ∧ M ≤ 9223372036854775807
  n0 : -9223372036854775808 ≤ N ∧ N ≤ 9223372036854775807
def Asks (w : World) (A : Option Addr) (n : Nat) : Prop :=
  0 < n → ∃ b o, A = some ⟨b, o, none⟩ ∧ b < w.heap.size ∧ ∀ i, i < n → ∃ B T I M N V E xs es, AskAt w b (o + i * 7) B T I M N V E xs es
theorem asks_of {W : World} {A : Option Addr} (xs : List AskTy.den)
    (h3 : 0 < xs.length → ∃ b o, A = some ⟨b, o, none⟩ ∧ b < W.heap.size ∧ ∀ (i : Nat) (x : AskTy.den), xs[i]? = some x → AskTy.At W (fun j => W.cell? ⟨b, o + i * AskTy.size + j, none⟩) x) : Asks W A xs.length := by
  intro hp
  obtain ⟨b, o, hA, hb, hi⟩ := h3 hp
  refine ⟨b, o, hA, hb, fun i hil => ?_⟩
  obtain ⟨⟨h1, h2, h3, _⟩, h4, h5, h6, h7, _⟩ := hi i _ (List.getElem?_eq_getElem hil)
  obtain ⟨c0, w0⟩ := at_int h1
  obtain ⟨c1, w1⟩ := at_int h2
  obtain ⟨V, ls, c2, hl, hlok, hllen⟩ := ents_of h3
  obtain ⟨c3, w3⟩ := at_int h4
  obtain ⟨c4, w4⟩ := at_int h5
  obtain ⟨E, es, c5, he, heok, helen⟩ := ents_of h6
  obtain ⟨c6, w6⟩ := at_int h7
  exact ⟨_, _, _, _, _, V, E, ls, es, ⟨c0, c1, c2, c3, c4, c5, c6, hl, hlok, hllen, he, heok, helen, bounds_i64 w3, bounds_i64 w4, bounds_i64 w6⟩⟩

theorem walk_of {H : Type} {enc : TypeId × Value → H} {F : FuncId} (any : ∀ (A : Option Addr) (n cap : Nat) (w : World), n ≤ 9223372036854775807 → Asks w A n → Calls Try.prog F #[.slice A n cap] w fun e w' => e = .returned (.bool true) ∧ From w w')
    (W : World) (base : Nat) (v : Value) (d : DataW H) (p : List MemPlace) (hv : Value.okWide Try.prog W .any base 22 v)
    (h : DataW.Trod enc Try.prog W 0 (fun _ => true) true 22 v d p) (hsz : ∀ n ∈ d.weights Try.prog 22, n ≤ 140737488351232) :
    Calls Try.prog F #[v] W fun e W' => e = .returned (.bool true) ∧ From W W' := by
  obtain ⟨A, cap, xs, rfl, h1, h2, h3⟩ := arg_sl AskTy ask_fits hv h hsz
  exact any A xs.length cap W (Nat.le_trans h2.1 h2.2) (asks_of xs h3)
end Go.Proofs.Ytnnknoohhoifbaa
