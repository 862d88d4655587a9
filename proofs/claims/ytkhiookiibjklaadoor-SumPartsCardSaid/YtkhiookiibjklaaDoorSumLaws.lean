/- Sum is the reference's for any bytes and any sum ahead: the statement SumExact, for every argument. -/
import Derived.Test.YtkhiookiibjklaaDoorArg
import Derived.Test.YtkhiookiibjklaaDoorSumWalks
import Derived.Test.YtkhiookiibjklaaDoorCards
import Derived.Test.YtkhiookiibjklaaDoorTie
import Derived.OpenShut
import Derived.Lib.SlBytesConst
namespace Go.Proofs.YtkhiookiibjklaaDoor
open Go.ChangeShapes Go.WideShapes Go.ChangeAt Go.RowKit CM
/-- lecternref0.CopyBytes -/
theorem copyBytes_info : (Tryd.prog.info? 5).map (fun i => (i.zero, i.size, i.bytes)) = some (some (.int .u8 0), 1, 1) := by kernel_rfl

set_option maxRecDepth 100000 in
set_option maxHeartbeats 400000 in
theorem copyBytes_any (v : Value) (xs : List Nat) (w : World) (hr : Row w v (xs.map fun (x : Nat) => .int .u8 x)) (hlen : xs.length ≤ 1000000000000) :
    Calls Tryd.prog 6 #[v] w fun e w' => ∃ v', e = .returned v' ∧ w'.ownsRow w.heap.size 5 1 v' xs.length (xs.map fun (x : Nat) => .int .u8 x) ∧ From w w' := by
  obtain ⟨i0, hi0, hz0, hz1, hz2⟩ := info_parts copyBytes_info
  obtain ⟨A, cap, rfl, hrow⟩ := row_vals hr
  go_enter Tryd.func6, Tryd.ntmps6
  go_wp2
  go_loopw [3, 4] (fun v i wr => ∃ j : Nat, j ≤ xs.length ∧ i = .int .i64 j ∧ wr.ownsRow w.heap.size 5 1 v j ((xs.take j).map fun (x : Nat) => .int .u8 x) ∧ From w wr) (fun _ i _ => xs.length - (intOf i).toNat)
  case atStart => exact ⟨0, by omega, rfl, World.ownsRow_nil _ _ _ _, From.rfl_⟩
  case round =>
    obtain ⟨j, hj, rfl, hown, hw⟩ := hrel
    by_cases hlt : j < xs.length
    · obtain ⟨b, o, rfl, hb, hc⟩ := hrow (by omega)
      have d1 := (hw.cells b (o + j) hb).trans (hc j hlt)
      have hr1 : (j + 1) * 1 ≤ 140737488355328 := by omega
      have hr2 : j + 1 ≤ maxLen := by unfold maxLen; omega
      have i1 : (0 : Int) ≤ (j : Int) := by omega
      have i2 : (j : Int) < (xs.length : Int) := by omega
      have hsn : xs.take (j + 1) = xs.take j ++ [xs[j]] := List.take_succ_eq_append_getElem hlt
      have HS := Lib.hid hsn
      clear hc hrow hr hsn
      go_wp2_with (at_builtin; refine wpList_push w rfl (.tmp 11) (.tmp 16) 24 rfl 5 i0 _ 1 Tryd.underlying24 hi0 hz0 hz1 hz2 rfl _ _ _ rfl hown hw rfl rfl hr1 hr2 ?_; intro v1 w1 hown1 hw1)
      go_roundw
      case rel => exact ⟨j + 1, by omega, by go_num, by rw [HS.out, List.map_append]; exact hown1, hw1⟩
      case measure => simp [intOf]; omega
    · obtain hjl : j = xs.length := by omega
      have HJ := Lib.hid hjl
      clear hjl
      go_wp2
      go_ret
      exact ⟨_, rfl, by rw [HJ.out, List.take_length] at hown; exact hown, hw⟩

/-- lecternref0.EqBytes -/
theorem eqBytes_step {xs ys : List Nat} {j : Nat} (h1 : j < xs.length) (h2 : j < ys.length) (h : xs.take j = ys.take j) (e : xs[j] = ys[j]) : xs.take (j + 1) = ys.take (j + 1) := by
  rw [List.take_succ_eq_append_getElem h1, List.take_succ_eq_append_getElem h2, h, e]
set_option maxRecDepth 100000 in
set_option maxHeartbeats 400000 in
theorem eqBytes_any (v u : Value) (xs ys : List Nat) (w : World) (hr : Row w v (xs.map fun (x : Nat) => .int .u8 x)) (hs : Row w u (ys.map fun (x : Nat) => .int .u8 x)) (hlen : xs.length ≤ 1000000000000) :
    Calls Tryd.prog 9 #[v, u] w fun e w' => e = .returned (.bool (decide (xs = ys))) ∧ From w w' := by
  obtain ⟨A, cap, rfl, hrow⟩ := row_vals hr
  obtain ⟨B, cap2, rfl, hrow2⟩ := row_vals hs
  by_cases hl : xs.length = ys.length
  · have t0 : ((xs.length : Int) != (ys.length : Int)) = false := by simp; omega
    have hl2 : ys.length ≤ xs.length := by omega
    have hl3 : xs.length ≤ ys.length := by omega
    have HL := Lib.hid hl
    clear hl
    go_enter Tryd.func9, Tryd.ntmps9
    go_wp2
    go_loopw [5] (fun i wr => ∃ j : Nat, j ≤ xs.length ∧ i = .int .i64 j ∧ xs.take j = ys.take j ∧ From w wr) (fun i _ => xs.length - (intOf i).toNat)
    case atStart => exact ⟨0, by omega, rfl, rfl, From.rfl_⟩
    case round =>
      obtain ⟨j, hj, rfl, heq, hw⟩ := hrel
      have HE := Lib.hid heq
      clear heq
      by_cases hlt : j < xs.length
      · obtain ⟨b, o, rfl, hb, hc⟩ := hrow (by omega)
        obtain ⟨b2, o2, rfl, hb2, hc2⟩ := hrow2 (by omega)
        have hlt2 : j < ys.length := by omega
        have d1 : ∀ w', From w w' → w'.cell? ⟨b, o + j, none⟩ = some (.int .u8 xs[j]) := fun w' h => (h.cells b (o + j) hb).trans (hc j hlt)
        have d2 : ∀ w', From w w' → w'.cell? ⟨b2, o2 + j, none⟩ = some (.int .u8 ys[j]) := fun w' h => (h.cells b2 (o2 + j) hb2).trans (hc2 j hlt2)
        have hw2 := hw.d1
        have i1 : (0 : Int) ≤ (j : Int) := by omega
        have i2 : (j : Int) < (xs.length : Int) := by omega
        have i3 : (j : Int) < (ys.length : Int) := by omega
        have hstep := eqBytes_step hlt hlt2 HE.out
        have HT := Lib.hid hstep
        have hno : xs[j] ≠ ys[j] → xs ≠ ys := fun h e => h (by subst e; rfl)
        have HN := Lib.hid hno
        clear hc hc2 hrow hrow2 hr hs hstep hno
        generalize xs[j] = x1 at *
        generalize ys[j] = y1 at *
        by_cases hx : x1 = y1
        · have t1 : (x1 != y1) = false := by simpa using hx
          have HX := Lib.hid hx
          clear hx
          go_wp2_with fail
          go_quiet (fail)
          go_wp2
          go_roundw
          case rel => exact ⟨j + 1, by omega, by go_num, HT.out HX.out, hw.dn _⟩
          case measure => simp [intOf]; omega
        · have t1 : (x1 != y1) = true := by simpa using hx
          have HX := Lib.hid hx
          clear hx
          go_wp2_with fail
          go_quiet (fail)
          go_wp2
          go_ret
          exact ⟨by rw [decide_eq_false (HN.out HX.out)]; rfl, hw.dn _⟩
      · have hfin : xs = ys := by
          have := HE.out
          rwa [List.take_of_length_le (by omega), List.take_of_length_le (by omega)] at this
        have HF := Lib.hid hfin
        clear hfin
        go_wp2
        go_ret
        exact ⟨by rw [decide_eq_true HF.out]; rfl, hw⟩
  · have t0 : ((xs.length : Int) != (ys.length : Int)) = true := by simp; omega
    have hne : xs ≠ ys := fun e => hl (by rw [e])
    have HN := Lib.hid hne
    clear hl hne
    go_enter Tryd.func9, Tryd.ntmps9
    go_wp2
    go_ret
    exact ⟨by rw [decide_eq_false HN.out]; rfl, From.rfl_⟩


theorem table_of {W : World} (h : laidMetH Tryd.prog Rows.sumExactRow.laid W) : Table W := by
  have gTab : Tryd.prog.globalNamed "lectern/sum.remainders" = some 0 := by kernel_rfl
  have gType : (Tryd.prog.globals[0]?).map (·.type) = some 43 := by kernel_rfl
  have c1 : Tryd.prog.cellsOf 36 = 1 := by kernel_rfl
  have c16 : Tryd.prog.cellsOf 43 = 16 := by kernel_rfl
  have ht : Lib.TabIs Tryd.prog W "lectern/sum.remainders" .u32 [0, 498536548, 997073096, 651767980, 1994146192, 1802195444, 1303535960, 1342533948, 3988292384, 4027552580, 3604390888, 3412177804, 2607071920, 2262029012, 2685067896, 3183342108] :=
    Lib.tabIs_of_head (rest := []) gTab gType Tryd.underlying43 Tryd.underlying36 c1 c16 h
  intro i hi
  rw [ht.cell gTab i hi]
  have : i = 0 ∨ i = 1 ∨ i = 2 ∨ i = 3 ∨ i = 4 ∨ i = 5 ∨ i = 6 ∨ i = 7 ∨ i = 8 ∨ i = 9 ∨ i = 10 ∨ i = 11 ∨ i = 12 ∨ i = 13 ∨ i = 14 ∨ i = 15 := by omega
  rcases this with rfl | rfl | rfl | rfl | rfl | rfl | rfl | rfl | rfl | rfl | rfl | rfl | rfl | rfl | rfl | rfl <;> rfl

theorem row_marked {cs : Array Value} (w : World) (t : TypeId) (lo hi cap : Nat) : Row (w.alloc (.cells cs t (lo, hi))) (.slice (some ⟨w.heap.size, 0, none⟩) cs.size cap) cs.toList := by
  refine ⟨some ⟨w.heap.size, 0, none⟩, cap, by simp, fun _ => ⟨w.heap.size, 0, rfl, by simp, fun i u hu => ?_⟩⟩
  rw [Nat.zero_add, World.cell?_alloc_mark]
  simpa using hu

theorem wakes (w : World) (hT : Table w) :
    Calls Tryd.prog 10 #[] w fun e w' => e = .returned (.bool true) ∧ From w w' := by
  have hs : ((sumF 0#32 [49, 50, 51, 52, 53, 54, 55, 56, 57]).toNat : Int) = 3421780262 := by decide +kernel
  have hb : CM.Bytes [49, 50, 51, 52, 53, 54, 55, 56, 57] := by unfold CM.Bytes; decide
  have kc := fun (w : World) (C : Array Value) (n c : Nat) => Lib.run_convert_bytes_const (P := Tryd.prog) w 24 5 C n c Tryd.underlying24 Tryd.underlying5
  have HT := Lib.hid (fun w' (h : From w w') => hT.from_ h)
  have HS := Lib.hid hs
  clear hT hs
  go_enter Tryd.func10, Tryd.ntmps10
  go_wp2_with fail
  refine (sum_any 0#32 _ [49, 50, 51, 52, 53, 54, 55, 56, 57] _ (row_marked (cs := #[.int .u8 49, .int .u8 50, .int .u8 51, .int .u8 52, .int .u8 53, .int .u8 54, .int .u8 55, .int .u8 56, .int .u8 57]) _ _ _ _ _) hb (by decide) (HT.out _ (From.rfl_.new _))).mono ?_
  rintro e w1 ⟨rfl, hb1⟩
  rw [HS.out]
  go_wp2
  go_ret
  exact ⟨rfl, (From.rfl_.new _).next hb1⟩

abbrev AskTy : Ty := .pr (.int .u32) (.pr (.sl (.int .u8)) (.pr (.int .i64) .unit))
theorem ask_fits : (Ty.sl AskTy).fits Tryd.prog (.inl 22) = true := by kernel_rfl

structure AskAt (w : World) (b o : Nat) (s : BitVec 32) (v : Value) (l : List Nat) (n : Int) : Prop where
  c0 : w.cell? ⟨b, o, none⟩ = some (.int .u32 (s.toNat : Int))
  c1 : w.cell? ⟨b, o + 1, none⟩ = some v
  c2 : w.cell? ⟨b, o + 2, none⟩ = some (.int .i64 n)
  row : Row w v (bytesV l)
  bytes : CM.Bytes l
  len : l.length ≤ 140737488351232
  n0 : -9223372036854775808 ≤ n
  n1 : n ≤ 9223372036854775807
  caps : ∃ B c, v = .slice B l.length c ∧ l.length ≤ c ∧ c ≤ 9223372036854775807
def Asks (w : World) (A : Option Addr) (n : Nat) : Prop :=
  0 < n → ∃ b o, A = some ⟨b, o, none⟩ ∧ b < w.heap.size ∧ ∀ i, i < n → ∃ s v l k, AskAt w b (o + i * 3) s v l k

theorem u32_int {s : Int} (h0 : 0 ≤ s) (h1 : s ≤ 4294967295) : ((BitVec.ofNat 32 s.toNat).toNat : Int) = s := by
  have : s.toNat < 2 ^ 32 := by omega
  rw [BitVec.toNat_ofNat, Nat.mod_eq_of_lt this]
  omega

theorem asks_of {W : World} {A : Option Addr} (xs : List AskTy.den)
    (h3 : 0 < xs.length → ∃ b o, A = some ⟨b, o, none⟩ ∧ b < W.heap.size ∧ ∀ (i : Nat) (x : AskTy.den), xs[i]? = some x → AskTy.At W (fun j => W.cell? ⟨b, o + i * AskTy.size + j, none⟩) x) : Asks W A xs.length := by
  intro hp
  obtain ⟨b, o, hA, hb, hi⟩ := h3 hp
  refine ⟨b, o, hA, hb, fun i hil => ?_⟩
  obtain ⟨h1, h2, h3, _⟩ := hi i _ (List.getElem?_eq_getElem hil)
  obtain ⟨c0, w0⟩ := at_int h1
  obtain ⟨B, cap, l, c1, hrow, hby, hlen, hcap⟩ := at_bytes h2
  obtain ⟨c2, w2⟩ := at_int h3
  have e0 := bounds_u32 w0
  have e2 := bounds_i64 w2
  exact ⟨_, _, l, _, ⟨by rw [u32_int e0.1 e0.2]; exact c0, c1, c2, hrow, hby, hlen, e2.1, e2.2, ⟨B, cap, rfl, hcap.1, hcap.2⟩⟩⟩

set_option maxRecDepth 100000 in
set_option maxHeartbeats 1000000 in
theorem exact_any (A : Option Addr) (n cap : Nat) (w : World) (hn : n ≤ 9223372036854775807) (hE : Asks w A n) (hT : Table w) :
    Calls Tryd.prog 3 #[.slice A n cap] w fun e w' => e = .returned (.bool true) ∧ From w w' := by
  have HT := Lib.hid (fun w' (h : From w w') => hT.from_ h)
  clear hT
  go_enter Tryd.func3, Tryd.ntmps3
  go_wp2
  go_loopw [3] (fun i wr => ∃ k : Nat, k ≤ n ∧ i = .int .i64 k ∧ From w wr) (fun i _ => n - (intOf i).toNat)
  case atStart => exact ⟨0, by omega, rfl, From.rfl_⟩
  case round =>
    obtain ⟨k, hk, rfl, hw⟩ := hrel
    by_cases hlt : k < n ∧ k < 20
    · obtain ⟨hlt, h20⟩ := hlt
      obtain ⟨b, o, rfl, hb, hc⟩ := hE (by omega)
      obtain ⟨s, v, l, q, hat⟩ := hc k hlt
      have i1 : (0:Int) ≤ (k:Int) := by omega
      have i2 : (k:Int) < (n:Int) := by omega
      have hd : decide ((k : Int) < 20) = true := by simp; omega
      obtain ⟨B, cap2, rfl, hrow⟩ := row_vals hat.row
      have d1 : ∀ w', From w w' → w'.cell? ⟨b, o + k * 3, none⟩ = some (.int .u32 (s.toNat : Int)) := fun w' h => (h.cells b _ hb).trans hat.c0
      have d2 : ∀ w', From w w' → w'.cell? ⟨b, o + k * 3 + 1, none⟩ = some (.slice B l.length cap2) := fun w' h => (h.cells b _ hb).trans hat.c1
      have hlen := hat.len
      have HAT := Lib.hid hat
      clear hat hc hE hrow
      by_cases hbig : 3000 < l.length
      · have hb2 : decide ((3000 : Int) < (l.length : Int)) = true := by simp; omega
        go_wp2
        go_ret
        exact ⟨rfl, hw⟩
      · have hb2 : decide ((3000 : Int) < (l.length : Int)) = false := by simp; omega
        have hcopy := fun w' (h : From w w') => copyBytes_any _ l w' (HAT.out.row.from_ h) (by omega)
        have hsum := fun w' v (hr : Row w' v (bytesV l)) (h : From w w') => sum_any s v l w' hr HAT.out.bytes hlen (HT.out w' h)
        have href := fun w' (h : From w w') => refsum_any s _ l w' (HAT.out.row.from_ h) HAT.out.bytes hlen
        have heq := fun w' v (hr : Row w' v (bytesV l)) (h : From w w') => eqBytes_any v _ l l w' hr (HAT.out.row.from_ h) (by omega)
        have H1 := Lib.hid hcopy
        have H2 := Lib.hid hsum
        have H3 := Lib.hid href
        have H4 := Lib.hid heq
        clear hcopy hsum href heq
        generalize (sumF s l).toNat = r at *
        generalize s.toNat = s0 at *
        go_wp2_with (go_at_call 6; (with_reducible refine (H1.out _ (by assumption)).mono ?_); rintro e w2 ⟨v2, rfl, hown, hb3⟩; have hrow2 := Row.of_own hown; have hl2 := own_form hown; obtain ⟨A2, c2, rfl⟩ := hl2; clear hown; replace hb3 := From.next (a := w) (by assumption) hb3)
        have h22 : From w2 w2 := From.rfl_
        have d1' := fun w' (h : From w2 w') => d1 w' (hb3.next h)
        have d2' := fun w' (h : From w2 w') => d2 w' (hb3.next h)
        have HB := Lib.hid hb3
        clear d1 d2 hb3
        go_region_held3 (fun w' => From w2 w')
          (first | assumption | exact From.d1 (by assumption) | exact From.dn (by assumption) _ | exact From.next (by assumption) (by assumption))
          (first
            | (go_at_call 7; refine (H2.out _ _ (hrow2.from_ (by assumption)) (HB.out.next (by assumption))).mono ?_; rintro e w4 ⟨rfl, hb4⟩)
            | (go_at_call 8; refine (H3.out _ (HB.out.next (by assumption))).mono ?_; rintro e w4 ⟨rfl, hb4⟩)
            | (go_at_call 9; refine (H4.out _ _ (hrow2.from_ (by assumption)) (HB.out.next (by assumption))).mono ?_; rintro e w4 ⟨rfl, hb4⟩))
        go_wp2
        go_roundw
        case rel => exact ⟨k + 1, by omega, by go_num, HB.out.next (by assumption)⟩
        case measure => simp [intOf]; omega
    · rcases (show ¬ k < n ∨ (k < n ∧ ¬ k < 20) by omega) with h1 | ⟨h1, h2⟩
      all_goals
        clear hlt
        go_wp2_with (go_at_call 10; (with_reducible refine (wakes _ (HT.out _ hw)).mono ?_); rintro e w1 ⟨rfl, hb1⟩)
        go_ret
        exact ⟨rfl, hw.next hb1⟩

theorem walk_of {H : Type} {enc : TypeId × Value → H} {F : FuncId} (any : ∀ (A : Option Addr) (n cap : Nat) (w : World), n ≤ 9223372036854775807 → Asks w A n → Table w → Calls Tryd.prog F #[.slice A n cap] w fun e w' => e = .returned (.bool true) ∧ From w w')
    (W : World) (base : Nat) (v : Value) (d : DataW H) (p : List MemPlace) (hL : laidMetH Tryd.prog Rows.sumExactRow.laid W) (_hS : W.ShapedOpen Tryd.prog) (hv : Value.okWide Tryd.prog W .any base 22 v)
    (h : DataW.Trod enc Tryd.prog W 0 (fun _ => true) true 22 v d p) (hsz : ∀ n ∈ d.weights Tryd.prog 22, n ≤ 140737488351232) :
    Calls Tryd.prog F #[v] W fun e W' => e = .returned (.bool true) ∧ From W W' := by
  obtain ⟨A, cap, xs, rfl, h1, h2, h3⟩ := arg_sl AskTy ask_fits hv h hsz
  exact any A xs.length cap W (Nat.le_trans h2.1 h2.2) (asks_of xs h3) (table_of hL)

/-- A WORLD FOR THE WITNESS: the settled one, the variables holding what their initialisers lay. -/
noncomputable def SumExact_world (os : Os) : World :=
  { World.holding Tryd.prog os ⟨#[], #[], []⟩ with heap := (World.holding Tryd.prog os ⟨#[], #[], []⟩).heap.modify 0 fun | .cells _ t frozen => .cells #[.int .u32 0, .int .u32 498536548, .int .u32 997073096, .int .u32 651767980, .int .u32 1994146192, .int .u32 1802195444, .int .u32 1303535960, .int .u32 1342533948, .int .u32 3988292384, .int .u32 4027552580, .int .u32 3604390888, .int .u32 3412177804, .int .u32 2607071920, .int .u32 2262029012, .int .u32 2685067896, .int .u32 3183342108] t frozen | o => o }
theorem SumExact_met (os : Os) : laidMet Tryd.prog Rows.sumExactRow.laid ((SumExact_world os).forCall (fun _ _ => 0) ⟨#[], #[.slice none 0 0], []⟩).memory :=
  laidMet_of_run' 8 (by kernel_rfl) (by kernel_rfl)
theorem SumExact_reads (os : Os) {H : Type} (enc : TypeId × Value → H) : ∃ places, DataW.whole enc Tryd.prog ((SumExact_world os).forCall (fun _ _ => 0) ⟨#[], #[.slice none 0 0], []⟩).memory Tryd.f3.params.toList Rows.sumExactSpec.vars false #[(.slice none 0 0 : Value)].toList 8 = some ([.nil], [], places) :=
  ⟨[], by kernel_rfl⟩

set_option maxRecDepth 100000 in
theorem SumExact_lifted (os : Os) (started : os.Started) (H : Type) (enc : TypeId × Value → H) (F : Stop.Interp) :
    ReturnsInHanded {} Tryd.checked os 3 .any ((OpenSpec.ofChange Rows.sumExactSpec).preRow enc Tryd.prog Tryd.f3 Rows.sumExactRow.domain false Rows.sumExactRow.laid) (((OpenSpec.ofChange Rows.sumExactSpec).at F).post enc Tryd.prog Tryd.f3 false true false false) := by
  obtain ⟨places, hx⟩ := SumExact_reads os enc
  refine returnsInHanded_of_row (C := Tryd.checked) (s := OpenSpec.ofChange Rows.sumExactSpec) Tryd.own started (by kernel_rfl) Tryd.func3
    (witness_row_at (enc := enc) (C := Tryd.checked) false (SumExact_world os) #[.slice none 0 0] rfl (by kernel_rfl) (by kernel_rfl) (by kernel_rfl)
      (OpenSpec.preRow_of_cond 8 hx (by kernel_rfl) (fun k hk => by cases hk) (by kernel_rfl) (SumExact_met os))) ?_
  intro W base args ds gs before hval hW _ _ hsz hL hS _
  exact law_step_laid 3 Tryd.f3 22 4 Rows.sumExactSpec Tryd.params3 (by kernel_rfl) Tryd.underlying4 rfl (fun _ => rfl) (by kernel_rfl) (of_decide_eq_true (by kernel_rfl)) Rows.sumExactRow.laid (walk_of exact_any) W base args ds gs before hval hW hsz hL hS

theorem SumExact_said : Rows.SumExactSaid :=
  OpenClaim.holds_of_cond 3 Tryd.f3 rfl rfl rfl rfl rfl rfl rfl ⟨rfl, rfl, rfl, rfl, rfl⟩ rfl rfl rfl rfl rfl (by kernel_rfl) Tryd.func3 (by kernel_rfl)
    (of_decide_eq_true (by kernel_rfl)) (by unfold Func.isWrapper; first | (rw [if_pos (by decide +kernel)]; kernel_rfl) | (rw [if_neg (by decide +kernel)]; exact ⟨rfl, rfl⟩))
    (fun os started H enc _ F => by rw [OpenClaim.pre_eq_preRow]; exact SumExact_lifted os started H enc F)

theorem SumExact_plain (f : FuncId) (fn : Func) (hf : Tryd.pinned.checked.prog.funcNamed "lectern/lecternlaw9.SumExact" = some f) (hfn : Tryd.pinned.checked.prog.funcs[f]? = some fn) :
    false = Tryd.pinned.checked.prog.looks [] ∧ ∀ (j : Nat) t, fn.params[j]? = some t → Tryd.pinned.checked.prog.wantsStandIn t = false := by
  obtain rfl : f = 3 := Option.some.inj ((show Tryd.prog.funcNamed "lectern/lecternlaw9.SumExact" = some 3 by kernel_rfl).symm.trans hf) |>.symm
  obtain rfl : fn = Tryd.f3 := (Option.some.inj (Tryd.func3.symm.trans hfn)).symm
  refine ⟨by kernel_rfl, fun j t ht => ?_⟩
  rw [Tryd.params3] at ht
  obtain rfl : t = 22 := by simpa using Array.mem_of_getElem? ht
  exact (show Tryd.prog.wantsStandIn 22 = false by kernel_rfl)

theorem SumExact_holds : Rows.SumExactCardSaid :=
  Claim7.holds_tied_plain_at .later [] _ _ _ _ SumExact_said (fun _ h => by cases h) (by kernel_rfl) (fun _ h => by cases h) sumExact_row_tie rfl ⟨rfl, rfl⟩ (by kernel_rfl) rfl SumExact_plain (by kernel_rfl)
#print axioms SumExact_holds

end Go.Proofs.YtkhiookiibjklaaDoor
