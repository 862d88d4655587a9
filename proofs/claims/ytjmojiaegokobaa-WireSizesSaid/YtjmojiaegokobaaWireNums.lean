/- A number's bytes are the reference's, and it is read back from them; the number that any bytes begin with is the reference's: the statement WireNums, for every argument. -/
import Derived.Test.YtjmojiaegokobaaWireHelp
namespace Go.Proofs.Ytjmojiaegokobaa
open Go.ChangeShapes Go.WideShapes Go.ChangeAt Go.RowKit

theorem From.size {a w : World} (h : From a w) : a.heap.size ≤ w.heap.size := Below.size h
theorem World.ownsRow_le {w : World} {base base' size n : Nat} {e : TypeId} {v : Value} {xs : List Value} (h : w.ownsRow base e size v n xs) (hb : base' ≤ base) : w.ownsRow base' e size v n xs := by
  refine ⟨h.1, ?_⟩
  rcases h.2 with h2 | ⟨g, cap, cur, hv, hg, r⟩
  · exact .inl h2
  · exact .inr ⟨g, cap, cur, hv, Nat.le_trans hb hg, r⟩
theorem wakes_put : putB [⟨#[97]⟩, ⟨#[]⟩] = [2, 1, 97, 0] := by
  have e1 : (⟨#[97]⟩ : ByteArray).size = 1 := rfl
  have e2 : (⟨#[]⟩ : ByteArray).size = 0 := rfl
  simp [putB, encL, encS, nums_small, strB, e1, e2]
set_option maxHeartbeats 1000000 in
theorem wakes_any (w : World) : Calls Try.prog 15 #[] w fun e w' => e = .returned (.bool true) ∧ From w w' := by
  have hput := put_any (.slice (some ⟨w.heap.size, 0, none⟩) 2 2) [⟨#[97]⟩, ⟨#[]⟩] (w.alloc (.cells #[.string ⟨#[97]⟩, .string ⟨#[]⟩] 9)) (RowC.blk (Blk.new w 9 #[.string ⟨#[97]⟩, .string ⟨#[]⟩]) 2 (by decide) (by decide))
    (fun s hs => by simp at hs; rcases hs with rfl | rfl <;> decide) (by rw [wakes_put]; decide)
  rw [wakes_put] at hput
  have heq := fun (u v : Value) (w' : World) (hr : Row w' u (bytesV [2, 1, 97, 0])) (hs : Row w' v (bytesV [2, 1, 97, 0])) => eqBytes_any u v [2, 1, 97, 0] [2, 1, 97, 0] w' hr hs (by decide)
  have HP := Lib.hid hput
  have HE := Lib.hid heq
  clear hput heq
  go_enter Try.func15, Try.ntmps15
  go_wp2_with fail
  refine HP.out.mono ?_
  rintro e w1 ⟨v1, rfl, hown, hw1⟩
  go_wp2_with (first
    | (go_at_call 9; (with_reducible refine (errnum_any _ _).mono ?_); rintro e w1 ⟨rfl, rfl⟩))
  refine (HE.out v1 _ _ (Row.of_own (hown.kept_from (From.rfl_.new _))) (Row.blk (Blk.new w1 5 #[.int .u8 2, .int .u8 1, .int .u8 97, .int .u8 0]) 4)).mono ?_
  rintro e w2 ⟨rfl, hw2⟩
  go_wp2
  go_ret
  exact ⟨rfl, ((From.rfl_.new _).next hw1).next ((From.rfl_.new _).next hw2)⟩

abbrev AskTy : Ty := .pr (.int .i64) (.pr (.sl .str) (.pr (.sl (.int .u8)) .unit))
theorem ask_fits : (Ty.sl AskTy).fits Try.prog (.inl 22) = true := by kernel_rfl

structure AskAt (w : World) (b o : Nat) (q : Int) (L V : Value) (ts : List ByteArray) (l : List Nat) : Prop where
  c0 : w.cell? ⟨b, o, none⟩ = some (.int .i64 q)
  c1 : w.cell? ⟨b, o + 1, none⟩ = some L
  c2 : w.cell? ⟨b, o + 2, none⟩ = some V
  strs : RowC w L (ts.map .string)
  tsz : ∀ s ∈ ts, s.size ≤ 140737488351232
  tlen : ts.length * 16 ≤ 140737488351232
  row : RowC w V (bytesV l)
  bytes : ∀ x ∈ l, x < 256
  len : l.length ≤ 140737488351232
  n0 : -9223372036854775808 ≤ q
  n1 : q ≤ 9223372036854775807
  vnil : ∀ m c, V = .slice none m c → m = 0 ∧ c = 0
def Asks (w : World) (A : Option Addr) (n : Nat) : Prop :=
  0 < n → ∃ b o, A = some ⟨b, o, none⟩ ∧ b < w.heap.size ∧ ∀ i, i < n → ∃ q L V ts l, AskAt w b (o + i * 3) q L V ts l
theorem asks_of {W : World} {A : Option Addr} (xs : List AskTy.den)
    (h3 : 0 < xs.length → ∃ b o, A = some ⟨b, o, none⟩ ∧ b < W.heap.size ∧ ∀ (i : Nat) (x : AskTy.den), xs[i]? = some x → AskTy.At W (fun j => W.cell? ⟨b, o + i * AskTy.size + j, none⟩) x) : Asks W A xs.length := by
  intro hp
  obtain ⟨b, o, hA, hb, hi⟩ := h3 hp
  refine ⟨b, o, hA, hb, fun i hil => ?_⟩
  obtain ⟨h1, h2, h3, _⟩ := hi i _ (List.getElem?_eq_getElem hil)
  obtain ⟨c0, w0⟩ := at_int h1
  obtain ⟨A1, cap1, ts, c1, hr1, hs1, hl1, hc1⟩ := at_strs h2
  obtain ⟨B, cap, l, c2, hrow, hby, hlen, hcap⟩ := at_bytes h3
  have e0 := bounds_i64 w0
  refine ⟨_, _, _, ts, l, ⟨c0, c1, c2, RowC.mk_ hr1 (by simp) hc1.1 hc1.2, hs1, hl1, RowC.mk_ hrow (bytesV_length l) hcap.1 hcap.2, hby, hlen, e0.1, e0.2, fun m c hv => ?_⟩⟩
  exact at_nil h3 (by rw [c2, hv])

set_option maxRecDepth 100000 in
set_option maxHeartbeats 2000000 in
theorem nums_law (A : Option Addr) (n cap : Nat) (w : World) (hn : n ≤ 9223372036854775807) (hE : Asks w A n) :
    Calls Try.prog 3 #[.slice A n cap] w fun e w' => e = .returned (.bool true) ∧ From w w' := by
  obtain ⟨i0, hi0, hz0, hz1, hz2⟩ := info_parts u8_info
  go_enter Try.func3, Try.ntmps3
  go_wp2
  go_loopw [3] (fun i wr => ∃ k : Nat, k ≤ n ∧ i = .int .i64 k ∧ From w wr) (fun i _ => n - (intOf i).toNat)
  case atStart => exact ⟨0, by omega, rfl, From.rfl_⟩
  case round =>
    obtain ⟨k, hk, rfl, hw⟩ := hrel
    by_cases hlt : k < n ∧ k < 12
    · obtain ⟨hlt, h20⟩ := hlt
      obtain ⟨b, o, rfl, hb, hc⟩ := hE (by omega)
      obtain ⟨q, L, V, ts, l, hat⟩ := hc k hlt
      have i1 : (0:Int) ≤ (k:Int) := by omega
      have i2 : (k:Int) < (n:Int) := by omega
      have hd : decide ((k : Int) < 12) = true := by simp; omega
      have d1 : ∀ w', From w w' → w'.cell? ⟨b, o + k * 3, none⟩ = some (.int .i64 q) := fun w' h => (h.cells b _ hb).trans hat.c0
      have d2 : ∀ w', From w w' → w'.cell? ⟨b, o + k * 3 + 1, none⟩ = some L := fun w' h => (h.cells b _ hb).trans hat.c1
      have d3 : ∀ w', From w w' → w'.cell? ⟨b, o + k * 3 + 2, none⟩ = some V := fun w' h => (h.cells b _ hb).trans hat.c2
      have hheavy := fun w' (h : From w w') => heavy_any (.int .i64 q) L V ts l w' (hat.strs.from_ h) hat.tsz hat.tlen (hat.row.from_ h)
      have hget := fun w' (h : From w w') => getnum_any V l hat.bytes w' (hat.row.from_ h)
      have href := fun w' (h : From w w') => refgetnum_any V l hat.bytes w' (hat.row.from_ h) (by have := hat.len; omega)
      have HV := Lib.hid hheavy
      have HG := Lib.hid hget
      have HR := Lib.hid href
      have HAT := Lib.hid hat
      clear hat hc hE hheavy hget href
      go_wp2_with fail
      refine (HV.out _ hw).mono ?_
      rintro e w1 ⟨h, rfl, hlight, hb1⟩
      have hw1 := hw.next hb1
      clear hb1
      cases h with
      | true =>
        go_wp2
        go_ret
        exact ⟨rfl, hw1⟩
      | false =>
        have hl8 := (hlight rfl).2
        clear hlight hw
        rcases hgl : getNum l with _ | ⟨m2, k2⟩
        all_goals
          rw [hgl] at HG HR
          simp only [gotV] at HG
          simp only [refGotV] at HR
        · by_cases hneg : q < 0
          · have hq := decide_eq_true hneg
            have hnum := fun w => num_neg q hneg w
            have HN := Lib.hid hnum
            clear hnum hneg
            go_wp2_with (first
              | (go_at_call 8; (with_reducible refine (HN.out _).mono ?_); rintro e w2 ⟨rfl, rfl⟩)
              | (go_at_call 10; (with_reducible refine (HG.out _ (by assumption)).mono ?_); rintro e w5 ⟨rfl, rfl⟩)
              | (go_at_call 14; (with_reducible refine (HR.out _ (by assumption)).mono ?_); rintro e w6 ⟨rfl, hb6⟩; replace hb6 := From.next (a := w) (by assumption) hb6)
              | (go_at_call 9; (with_reducible refine (errnum_any _ _).mono ?_); rintro e w7 ⟨rfl, rfl⟩))
            go_roundw
            case rel => exact ⟨k + 1, by omega, by go_num, by assumption⟩
            case measure => simp [intOf]; omega
          · obtain ⟨m, rfl⟩ := Int.eq_ofNat_of_zero_le (Int.not_lt.1 hneg)
            have hq : decide ((m : Int) < 0) = false := by simp
            have hm : m ≤ 9223372036854775807 := by have := HAT.out.n1; omega
            have hm9 := nums_len9 hm
            have hnum := fun w => num_any m hm w
            have href2 := fun w => refnum_any m hm w
            have hcopy := fun v w' (hr : Row w' v (bytesV (nums m))) => copyBytes_any v (nums m) w' hr (by omega)
            have HN := Lib.hid hnum
            have HF := Lib.hid href2
            have HC := Lib.hid hcopy
            have hget2 : ∀ v w', RowC w' v (bytesV (nums m) ++ bytesV l) → Calls Try.prog 10 #[v] w' fun e w'' => e = .returned (.tuple #[.int .i64 (m : Nat), .int .i64 ((nums m).length : Nat), .int .i64 0]) ∧ w' = w'' := fun v w' hr => by
              rw [← bytesV_append] at hr
              have h := getnum_any v (nums m ++ l) (fun b hb => by
                rcases List.mem_append.1 hb with h | h
                · exact nums_byte9 hm b h
                · exact HAT.out.bytes b h) w' hr
              rw [getNum_nums hm] at h
              exact h
            have heq : ∀ u v w', Row w' u (bytesV (nums m)) → Row w' v (bytesV (nums m)) → Calls Try.prog 12 #[u, v] w' fun e w'' => e = .returned (.bool true) ∧ From w' w'' := fun u v w' hr hs => by
              have h := eqBytes_any u v (nums m) (nums m) w' hr hs (by omega)
              simpa using h
            have HG2 := Lib.hid hget2
            have HE := Lib.hid heq
            clear hnum href2 hcopy hneg hget2 heq
            go_wp2_with (go_at_call 8; (with_reducible refine (HN.out _).mono ?_); rintro e w2 ⟨v2, rfl, hown2, hb2⟩; obtain ⟨A2, c2, rfl⟩ := own_form hown2; have hw2 : From w w2 := hw1.next hb2; have HO2 := Lib.hid hown2; clear hown2 hb2)
            have h22 : From w2 w2 := From.rfl_
            have e1 := fun w' (h : From w2 w') => d1 w' (hw2.next h)
            have e3 := fun w' (h : From w2 w') => d3 w' (hw2.next h)
            go_region_held3 (fun w' => From w2 w')
              (first | assumption | exact From.d1 (by assumption) | exact From.dn (by assumption) _ | exact From.next (by assumption) (by assumption))
              (first
                | (go_at_call 11; (with_reducible refine (HC.out _ _ (Row.of_own (HO2.out.kept_from (by assumption)))).mono ?_); rintro e w3 ⟨v3, rfl, hown3, hb3⟩; have hw23 : From w2 w3 := From.next (by assumption) hb3; have HO3 := Lib.hid (World.ownsRow_le hown3 (From.size (by assumption))); clear hown3 hb3)
                | (refine step_pushs w2 rfl (.tmp 54) (.tmp 59) 25 rfl 5 i0 _ 1 Try.underlying25 hi0 hz0 hz1 hz2 rfl _ _ _ rfl HO3.out (by assumption) _ _ rfl (HAT.out.row.from_ (From.next hw2 (by assumption))) (bytesV_one l) HAT.out.vnil (by rw [bytesV_length]; omega) (by rw [bytesV_length]; unfold maxLen; omega) ?_; intro v4 w4 hown4 hw4; have HO4 := Lib.hid hown4; clear hown4)
                | (go_at_call 10; (with_reducible refine (HG2.out _ _ (RowC.of_own HO4.out)).mono ?_); rintro e w5 ⟨rfl, rfl⟩))
            have hwz := hw2.next (w' := _) (by assumption)
            go_wp2_with (first
              | (go_at_call 13; (with_reducible refine (HF.out _).mono ?_); rintro e w6 ⟨v6, rfl, hown6, hb6⟩; have HO6 := Lib.hid hown6; have hw26 := From.next (a := w2) (by assumption) hb6; have hw6 := From.next (a := w) hw2 hw26; clear hown6 hb6)
              | (go_at_call 12; (with_reducible refine (HE.out _ _ _ (Row.of_own (HO2.out.kept_from (by assumption))) (Row.of_own HO6.out)).mono ?_); rintro e w7 ⟨rfl, hb7⟩; have hw7 := From.next (a := w) (by assumption) hb7)
              | (go_at_call 10; (with_reducible refine (HG.out _ (by assumption)).mono ?_); rintro e w5 ⟨rfl, rfl⟩)
              | (go_at_call 14; (with_reducible refine (HR.out _ (by assumption)).mono ?_); rintro e w6 ⟨rfl, hb6⟩; replace hb6 := From.next (a := w) (by assumption) hb6)
              | (go_at_call 9; (with_reducible refine (errnum_any _ _).mono ?_); rintro e w7 ⟨rfl, rfl⟩))
            go_roundw
            case rel => exact ⟨k + 1, by omega, by go_num, by assumption⟩
            case measure => simp [intOf]; omega
        · have hk2 := getNum_bound HAT.out.bytes hgl
          have hk3 : decide ((0 : Int) < (k2 : Int)) = true := by simp; omega
          have hk5 : 0 < k2 := by omega
          have hk4 : ((k2 : Int) == 0) = false := by rw [beq_eq_false_iff_ne]; omega
          have HGL := Lib.hid (And.intro hgl hk2)
          clear hgl hk2
          by_cases hneg : q < 0
          · have hq := decide_eq_true hneg
            have hnum := fun w => num_neg q hneg w
            have HN := Lib.hid hnum
            clear hnum hneg
            go_wp2_with (first
              | (go_at_call 8; (with_reducible refine (HN.out _).mono ?_); rintro e w2 ⟨rfl, rfl⟩)
              | (go_at_call 10; (with_reducible refine (HG.out _ (by assumption)).mono ?_); rintro e w5 ⟨rfl, rfl⟩)
              | (go_at_call 14; (with_reducible refine (HR.out _ (by assumption)).mono ?_); rintro e w6 ⟨rfl, hb6⟩; replace hb6 := From.next (a := w) (by assumption) hb6)
              | (go_at_call 9; (with_reducible refine (errnum_any _ _).mono ?_); rintro e w7 ⟨rfl, rfl⟩))
            go_roundw
            case rel => exact ⟨k + 1, by omega, by go_num, by assumption⟩
            case measure => simp [intOf]; omega
          · obtain ⟨m, rfl⟩ := Int.eq_ofNat_of_zero_le (Int.not_lt.1 hneg)
            have hq : decide ((m : Int) < 0) = false := by simp
            have hm : m ≤ 9223372036854775807 := by have := HAT.out.n1; omega
            have hm9 := nums_len9 hm
            have hnum := fun w => num_any m hm w
            have href2 := fun w => refnum_any m hm w
            have hcopy := fun v w' (hr : Row w' v (bytesV (nums m))) => copyBytes_any v (nums m) w' hr (by omega)
            have HN := Lib.hid hnum
            have HF := Lib.hid href2
            have HC := Lib.hid hcopy
            have hget2 : ∀ v w', RowC w' v (bytesV (nums m) ++ bytesV l) → Calls Try.prog 10 #[v] w' fun e w'' => e = .returned (.tuple #[.int .i64 (m : Nat), .int .i64 ((nums m).length : Nat), .int .i64 0]) ∧ w' = w'' := fun v w' hr => by
              rw [← bytesV_append] at hr
              have h := getnum_any v (nums m ++ l) (fun b hb => by
                rcases List.mem_append.1 hb with h | h
                · exact nums_byte9 hm b h
                · exact HAT.out.bytes b h) w' hr
              rw [getNum_nums hm] at h
              exact h
            have heq : ∀ u v w', Row w' u (bytesV (nums m)) → Row w' v (bytesV (nums m)) → Calls Try.prog 12 #[u, v] w' fun e w'' => e = .returned (.bool true) ∧ From w' w'' := fun u v w' hr hs => by
              have h := eqBytes_any u v (nums m) (nums m) w' hr hs (by omega)
              simpa using h
            have HG2 := Lib.hid hget2
            have HE := Lib.hid heq
            clear hnum href2 hcopy hneg hget2 heq
            go_wp2_with (go_at_call 8; (with_reducible refine (HN.out _).mono ?_); rintro e w2 ⟨v2, rfl, hown2, hb2⟩; obtain ⟨A2, c2, rfl⟩ := own_form hown2; have hw2 : From w w2 := hw1.next hb2; have HO2 := Lib.hid hown2; clear hown2 hb2)
            have h22 : From w2 w2 := From.rfl_
            have e1 := fun w' (h : From w2 w') => d1 w' (hw2.next h)
            have e3 := fun w' (h : From w2 w') => d3 w' (hw2.next h)
            go_region_held3 (fun w' => From w2 w')
              (first | assumption | exact From.d1 (by assumption) | exact From.dn (by assumption) _ | exact From.next (by assumption) (by assumption))
              (first
                | (go_at_call 11; (with_reducible refine (HC.out _ _ (Row.of_own (HO2.out.kept_from (by assumption)))).mono ?_); rintro e w3 ⟨v3, rfl, hown3, hb3⟩; have hw23 : From w2 w3 := From.next (by assumption) hb3; have HO3 := Lib.hid (World.ownsRow_le hown3 (From.size (by assumption))); clear hown3 hb3)
                | (refine step_pushs w2 rfl (.tmp 54) (.tmp 59) 25 rfl 5 i0 _ 1 Try.underlying25 hi0 hz0 hz1 hz2 rfl _ _ _ rfl HO3.out (by assumption) _ _ rfl (HAT.out.row.from_ (From.next hw2 (by assumption))) (bytesV_one l) HAT.out.vnil (by rw [bytesV_length]; omega) (by rw [bytesV_length]; unfold maxLen; omega) ?_; intro v4 w4 hown4 hw4; have HO4 := Lib.hid hown4; clear hown4)
                | (go_at_call 10; (with_reducible refine (HG2.out _ _ (RowC.of_own HO4.out)).mono ?_); rintro e w5 ⟨rfl, rfl⟩))
            have hwz := hw2.next (w' := _) (by assumption)
            go_wp2_with (first
              | (go_at_call 13; (with_reducible refine (HF.out _).mono ?_); rintro e w6 ⟨v6, rfl, hown6, hb6⟩; have HO6 := Lib.hid hown6; have hw26 := From.next (a := w2) (by assumption) hb6; have hw6 := From.next (a := w) hw2 hw26; clear hown6 hb6)
              | (go_at_call 12; (with_reducible refine (HE.out _ _ _ (Row.of_own (HO2.out.kept_from (by assumption))) (Row.of_own HO6.out)).mono ?_); rintro e w7 ⟨rfl, hb7⟩; have hw7 := From.next (a := w) (by assumption) hb7)
              | (go_at_call 10; (with_reducible refine (HG.out _ (by assumption)).mono ?_); rintro e w5 ⟨rfl, rfl⟩)
              | (go_at_call 14; (with_reducible refine (HR.out _ (by assumption)).mono ?_); rintro e w6 ⟨rfl, hb6⟩; replace hb6 := From.next (a := w) (by assumption) hb6)
              | (go_at_call 9; (with_reducible refine (errnum_any _ _).mono ?_); rintro e w7 ⟨rfl, rfl⟩))
            go_roundw
            case rel => exact ⟨k + 1, by omega, by go_num, by assumption⟩
            case measure => simp [intOf]; omega
    · rcases (show ¬ k < n ∨ (k < n ∧ ¬ k < 12) by omega) with h1 | ⟨h1, h2⟩
      all_goals
        clear hlt
        go_wp2_with (go_at_call 15; (with_reducible refine (wakes_any _).mono ?_); rintro e w1 ⟨rfl, hb1⟩)
        go_ret
        exact ⟨rfl, hw.next hb1⟩

theorem walk_of {H : Type} {enc : TypeId × Value → H} {F : FuncId} (any : ∀ (A : Option Addr) (n cap : Nat) (w : World), n ≤ 9223372036854775807 → Asks w A n → Calls Try.prog F #[.slice A n cap] w fun e w' => e = .returned (.bool true) ∧ From w w')
    (W : World) (base : Nat) (v : Value) (d : DataW H) (p : List MemPlace) (hv : Value.okWide Try.prog W .any base 22 v)
    (h : DataW.Trod enc Try.prog W 0 (fun _ => true) true 22 v d p) (hsz : ∀ n ∈ d.weights Try.prog 22, n ≤ 140737488351232) :
    Calls Try.prog F #[v] W fun e W' => e = .returned (.bool true) ∧ From W W' := by
  obtain ⟨A, cap, xs, rfl, h1, h2, h3⟩ := arg_sl AskTy ask_fits hv h hsz
  exact any A xs.length cap W (Nat.le_trans h2.1 h2.2) (asks_of xs h3)

set_option maxRecDepth 100000 in
theorem WireNums_lifted (os : Os) (started : os.Started) (H : Type) (enc : TypeId × Value → H) :
    ReturnsInHanded {} Try.checked os 3 .any (Rows.wireNumsSpec.pre6 enc Try.prog Try.f3 Rows.wireNumsRow.domain false) (Rows.wireNumsSpec.post enc Try.prog Try.f3 false true false false) := by
  refine returnsInHanded_of_change_sized (C := Try.checked) Try.own started (by kernel_rfl) Try.func3
    (ChangeSpec.witness6 (enc := enc) (C := Try.checked) false ⟨#[], #[.slice none 0 0], []⟩ 8 (by kernel_rfl) (by kernel_rfl) (by kernel_rfl) (by kernel_rfl)) ?_
  intro W base args ds gs before hval hW _ hsz _
  exact law_step 3 Try.f3 22 4 Rows.wireNumsSpec Try.params3 (by kernel_rfl) Try.underlying4 rfl (fun _ => rfl) (by kernel_rfl) (of_decide_eq_true (by kernel_rfl)) (walk_of nums_law) W base args ds gs before hval hW hsz

theorem WireNums_holds : Rows.WireNumsSaid :=
  OpenClaim.holds_of_wide 3 Try.f3 rfl rfl rfl rfl rfl rfl rfl ⟨rfl, rfl, rfl, rfl, rfl⟩ rfl rfl rfl rfl rfl (by kernel_rfl) Try.func3 (by kernel_rfl)
    (of_decide_eq_true (by kernel_rfl)) (by unfold Func.isWrapper; first | (rw [if_pos (by decide +kernel)]; kernel_rfl) | (rw [if_neg (by decide +kernel)]; exact ⟨rfl, rfl⟩))
    (fun os started H enc _ => WireNums_lifted os started H enc)
#print axioms WireNums_holds

end Go.Proofs.Ytjmojiaegokobaa
