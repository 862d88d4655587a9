/- Select and Select0 of bits as functions; the tied table. -/
import Derived.Test.YtmiclfhpenjjfaaDoorBitsFind
import Derived.Test.YtmiclfhpenjjfaaDoorCards
import Derived.Test.YtmiclfhpenjjfaaDoorTie
import Derived.Lib.LaidTab
namespace Go.Proofs.YtmiclfhpenjjfaaDoor
open Go.RowKit
open Go.ChangeShapes Go.WideShapes Go.ChangeAt
/-- where the k-th one (nought) stands, if there is one -/
def selP (l : List Bool) (z : Bool) (k : Int) : Int := if 0 ≤ k then ((((List.range l.length).find? fun p => fl l z p && (cntB (fl l z) p == k.toNat)).getD 0 : Nat) : Int) else 0
def selO (l : List Bool) (z : Bool) (k : Int) : Bool := decide (0 ≤ k ∧ k < (cntB (fl l z) l.length : Nat))
def selE (l : List Bool) (z : Bool) (k : Int) : Int := if selO l z k = true then 0 else 3
theorem selP_at {l : List Bool} {z : Bool} {k p : Nat} (h1 : p < l.length) (h2 : fl l z p = true) (h3 : cntB (fl l z) p = k) : selP l z (k : Int) = (p : Nat) := by
  unfold selP
  rw [if_pos (by omega), Int.toNat_natCast]
  cases hf : (List.range l.length).find? fun p => fl l z p && (cntB (fl l z) p == k) with
  | none =>
    have := List.find?_eq_none.1 hf p (List.mem_range.2 h1)
    simp [h2, h3] at this
  | some q =>
    have := List.find?_some hf
    simp only [Bool.and_eq_true, beq_iff_eq] at this
    rw [Option.getD_some, nth_unique this.1 h2 (by rw [this.2, h3])]
theorem selO_at {l : List Bool} {z : Bool} {k p : Nat} (h1 : p < l.length) (h2 : fl l z p = true) (h3 : cntB (fl l z) p = k) : selO l z (k : Int) = true := by
  have := cntB_lt h2 h1
  exact decide_eq_true (by omega)
theorem selP_no {l : List Bool} {z : Bool} {k : Int} (h : selO l z k = false) : selP l z k = 0 := by
  have h1 := of_decide_eq_false h
  unfold selP
  by_cases h0 : 0 ≤ k
  · rw [if_pos h0]
    cases hf : (List.range l.length).find? fun p => fl l z p && (cntB (fl l z) p == k.toNat) with
    | none => rfl
    | some q =>
      have h2 := List.find?_some hf
      have h3 := List.mem_range.1 (List.mem_of_find?_eq_some hf)
      simp only [Bool.and_eq_true, beq_iff_eq] at h2
      have := cntB_lt h2.1 h3
      omega
  · rw [if_neg h0]
theorem sel_rt (base b : Nat) (l : List Bool) (w : World) (hv : Vec w base b l) (hT : TZ w) (k : Int) : Rt Tryd.prog 32 [.pointer (some ⟨b, 0, none⟩), .int .i64 k] w fun v w' => v = .tuple #[.int .i64 (selP l false k), .int .i64 (selE l false k)] ∧ From w w' := by
  cases ho : selO l false k with
  | true =>
    have h1 := of_decide_eq_true ho
    obtain ⟨q, rfl⟩ : ∃ q : Nat, k = (q : Int) := ⟨k.toNat, by omega⟩
    refine Rt.mono (sel_in base b l w hv hT q (by omega)) fun v w' ⟨p, p1, p2, p3, e, hF⟩ => ⟨?_, hF⟩
    rw [e, selP_at p1 p2 p3]
    unfold selE
    rw [if_pos ho]
  | false =>
    refine Rt.mono (sel_out base b l w hv k (of_decide_eq_false ho)) fun v w' ⟨e, hF⟩ => ⟨?_, hF⟩
    rw [e, selP_no ho]
    unfold selE
    rw [if_neg (by rw [ho]; decide)]
theorem sel0_rt (base b : Nat) (l : List Bool) (w : World) (hv : Vec w base b l) (hT : TZ w) (k : Int) : Rt Tryd.prog 33 [.pointer (some ⟨b, 0, none⟩), .int .i64 k] w fun v w' => v = .tuple #[.int .i64 (selP l true k), .int .i64 (selE l true k)] ∧ From w w' := by
  cases ho : selO l true k with
  | true =>
    have h1 := of_decide_eq_true ho
    obtain ⟨q, rfl⟩ : ∃ q : Nat, k = (q : Int) := ⟨k.toNat, by omega⟩
    refine Rt.mono (sel0_in base b l w hv hT q (by omega)) fun v w' ⟨p, p1, p2, p3, e, hF⟩ => ⟨?_, hF⟩
    rw [e, selP_at p1 p2 p3]
    unfold selE
    rw [if_pos ho]
  | false =>
    refine Rt.mono (sel0_out base b l w hv k (of_decide_eq_false ho)) fun v w' ⟨e, hF⟩ => ⟨?_, hF⟩
    rw [e, selP_no ho]
    unfold selE
    rw [if_neg (by rw [ho]; decide)]
theorem sel1_is (base b i : Nat) (l : List Bool) (w : World) (hv : Vec w base b l) (hT : TZ w) (hi : i < l.length) (hb : bt l i = true) : Rt Tryd.prog 32 [.pointer (some ⟨b, 0, none⟩), .int .i64 (rk l i : Nat)] w fun v w' => v = .tuple #[.int .i64 (i : Nat), .int .i64 0] ∧ From w w' := by
  have h2 : fl l false i = true := by unfold fl; rw [hb]; rfl
  refine Rt.mono (sel_rt base b l w hv hT (rk l i : Nat)) fun v w' ⟨e, hF⟩ => ⟨?_, hF⟩
  rw [e, selP_at hi h2 (fl_false l i)]
  unfold selE
  rw [if_pos (selO_at hi h2 (fl_false l i))]
theorem sel0_is (base b i : Nat) (l : List Bool) (w : World) (hv : Vec w base b l) (hT : TZ w) (hi : i < l.length) (hb : bt l i = false) : Rt Tryd.prog 33 [.pointer (some ⟨b, 0, none⟩), .int .i64 ((i - rk l i : Nat) : Int)] w fun v w' => v = .tuple #[.int .i64 (i : Nat), .int .i64 0] ∧ From w w' := by
  have h2 : fl l true i = true := by unfold fl; rw [hb]; rfl
  refine Rt.mono (sel0_rt base b l w hv hT ((i - rk l i : Nat) : Int)) fun v w' ⟨e, hF⟩ => ⟨?_, hF⟩
  rw [e, selP_at hi h2 (fl_true l i)]
  unfold selE
  rw [if_pos (selO_at hi h2 (fl_true l i))]
theorem table_of {W : World} (h : laidMetH Tryd.prog Rows.waveletBackRow.laid W) : TZ W := by
  have gTab : Tryd.prog.globalNamed "math/bits.deBruijn64tab" = some 0 := by kernel_rfl
  have gType : (Tryd.prog.globals[0]?).map (·.type) = some 79 := by kernel_rfl
  have c1 : Tryd.prog.cellsOf 5 = 1 := by kernel_rfl
  have c64 : Tryd.prog.cellsOf 79 = 64 := by kernel_rfl
  have ht : Lib.TabIs Tryd.prog W "math/bits.deBruijn64tab" .u8 (tz.map fun (x : Nat) => (x : Int)) :=
    Lib.tabIs_of_head (rest := []) gTab gType Tryd.underlying79 Tryd.underlying5 c1 c64 h
  intro i hi
  rw [ht.cell gTab i (by rw [List.length_map]; exact hi)]
  simp [hi]
theorem walk_laid {H : Type} {enc : TypeId × Value → H} {F : FuncId} {T : TypeId} (t u : Ty) (hf : (Ty.pr t u).fits Tryd.prog (.inl T) = true) (laid : List (String × DataW Unit)) (hl : ∀ W, laidMetH Tryd.prog laid W → TZ W)
    (h : ∀ (cs : Array Value) (x : (Ty.pr t u).den) (w : World), cs.size = (Ty.pr t u).size → (Ty.pr t u).At w (fun j => cs[j]?) x → TZ w → Rt Tryd.prog F [.agg cs] w fun v w' => v = .bool true ∧ From w w')
    (W : World) (base : Nat) (v : Value) (d : DataW H) (p : List MemPlace) (hL : laidMetH Tryd.prog laid W) (_ : W.ShapedOpen Tryd.prog) (hok : Value.okWide Tryd.prog W .any base T v) (ht : DataW.Trod enc Tryd.prog W 0 (fun _ => true) true T v d p) (hsz : ∀ n ∈ d.weights Tryd.prog T, n ≤ 140737488351232) :
    Calls Tryd.prog F #[v] W fun e W' => e = .returned (.bool true) ∧ From W W' := by
  obtain ⟨cs, x, rfl, hs, ha⟩ := arg_st t u hf hok ht hsz
  exact Rt.to (h cs x W hs ha (hl W hL))
end Go.Proofs.YtmiclfhpenjjfaaDoor
