/- Walks of package sum and its reference. -/
import Derived.Test.YtkhiookiibjklaaDoorBase
import Derived.Test.YtkhiookiibjklaaDoorCrcMath
namespace Go.Proofs.YtkhiookiibjklaaDoor
open Go.RowKit CM

theorem u32_ofInt (x : BitVec 32) : BitVec.ofInt 32 (x.toNat : Int) = x := by
  rw [BitVec.ofInt_natCast]; apply BitVec.eq_of_toNat_eq; rw [BitVec.toNat_ofNat]; exact Nat.mod_eq_of_lt x.isLt
theorem wrap_toNat (x : BitVec 32) : IntKind.u32.wrap (x.toNat : Int) = (x.toNat : Int) := by
  have h := x.isLt
  rw [IntKind.wrap_u32']
  omega
theorem xor32 (x y : BitVec 32) : bits BinOp.xor IntKind.u32 (x.toNat : Int) (y.toNat : Int) = ((x ^^^ y).toNat : Int) := by
  show IntKind.u32.wrap ((BitVec.ofInt 32 (x.toNat : Int) ^^^ BitVec.ofInt 32 (y.toNat : Int)).toNat : Int) = _
  rw [u32_ofInt, u32_ofInt, wrap_toNat]
theorem and32 (x y : BitVec 32) : bits BinOp.and IntKind.u32 (x.toNat : Int) (y.toNat : Int) = ((x &&& y).toNat : Int) := by
  show IntKind.u32.wrap ((BitVec.ofInt 32 (x.toNat : Int) &&& BitVec.ofInt 32 (y.toNat : Int)).toNat : Int) = _
  rw [u32_ofInt, u32_ofInt, wrap_toNat]
theorem and15 (x : BitVec 32) : bits BinOp.and IntKind.u32 (x.toNat : Int) 15 = ((x &&& 15#32).toNat : Int) := and32 x 15#32
theorem and1_u32 (x : BitVec 32) : bits BinOp.and IntKind.u32 (x.toNat : Int) 1 = ((x &&& 1#32).toNat : Int) := and32 x 1#32
theorem shr4 (x : BitVec 32) : (x.toNat : Int) / 16 = ((x >>> 4).toNat : Int) := by
  rw [BitVec.toNat_ushiftRight, Nat.shiftRight_eq_div_pow]; omega
theorem shr1 (x : BitVec 32) : (x.toNat : Int) / 2 = ((x >>> 1).toNat : Int) := by
  rw [BitVec.toNat_ushiftRight, Nat.shiftRight_eq_div_pow]; omega

/-- the table, in every world that only grew -/
def Table (w : World) : Prop := ∀ i, i < 16 → w.cell? ⟨0, i, none⟩ = some (.int .u32 ((tab i).toNat : Int))
theorem Table.from_ {w w' : World} (h : Table w) (hw : From w w') : Table w' := fun i hi => (hw.cells _ _ (by
  rcases Nat.lt_or_ge 0 w.heap.size with hlt | hge
  · exact hlt
  · have := h 0 (by omega)
    unfold World.cell? at this
    rw [Array.getElem?_eq_none hge] at this
    cases this)).trans (h i hi)

set_option maxHeartbeats 400000 in
theorem half_any (c : BitVec 32) (w : World) (hT : Table w) :
    Calls Tryd.prog 14 #[.int .u32 (c.toNat : Int)] w fun e w' => e = .returned (.int .u32 ((half c).toNat : Int)) ∧ w = w' := by
  have h15 := low4 c
  have hT1 := hT _ h15
  have e1 := and15 c
  have e2 := shr4 c
  have e3 := xor32 (c >>> 4) (tab (c &&& 15#32).toNat)
  rw [← e2] at e3
  have hh : half c = (c >>> 4) ^^^ tab (c &&& 15#32).toNat := rfl
  rw [← hh] at e3
  clear hh hT e2
  generalize (half c).toNat = r at *
  generalize (tab (c &&& 15#32).toNat).toNat = t at *
  generalize (c &&& 15#32).toNat = m at *
  generalize c.toNat = x at *
  have i1 : (0 : Int) ≤ (m : Int) := by omega
  have i2 : (m : Int) < 16 := by omega
  go_enter Tryd.func14, Tryd.ntmps14
  go_wp2
  go_ret
  exact ⟨ret_int e3, rfl⟩

set_option maxHeartbeats 400000 in
/-- the receiver's block -/
theorem take_any (g : Nat) (c : BitVec 32) (b : Nat) (w : World) (hb : b < 256) (hT : Table w) (hg : w.cell? ⟨g, 0, none⟩ = some (.int .u32 (c.toNat : Int))) (hf : w.frozen? ⟨g, 0, none⟩ = false) :
    Calls Tryd.prog 13 #[.pointer (some ⟨g, 0, none⟩), .int .u8 (b : Int)] w fun e w' => e = .returned (.tuple #[]) ∧ w' = w.setCell ⟨g, 0, none⟩ (.int .u32 ((step8 (c ^^^ BitVec.ofNat 32 b)).toNat : Int)) := by
  have e1 := xor32 c (BitVec.ofNat 32 b)
  have hbn : ((BitVec.ofNat 32 b).toNat : Int) = (b : Int) := by rw [BitVec.toNat_ofNat, Nat.mod_eq_of_lt (by omega)]
  rw [hbn] at e1
  have c1 := half_any (c ^^^ BitVec.ofNat 32 b) w hT
  have c2 := half_any (half (c ^^^ BitVec.ofNat 32 b)) w hT
  have hs : step8 (c ^^^ BitVec.ofNat 32 b) = half (half (c ^^^ BitVec.ofNat 32 b)) := rfl
  rw [hs]
  clear hbn hs hT
  generalize (half (half (c ^^^ BitVec.ofNat 32 b))).toNat = r at *
  generalize (half (c ^^^ BitVec.ofNat 32 b)).toNat = q at *
  generalize (c ^^^ BitVec.ofNat 32 b).toNat = p at *
  generalize c.toNat = x at *
  have C1 := Lib.hid c1
  have C2 := Lib.hid c2
  clear c1 c2
  go_enter Tryd.func13, Tryd.ntmps13
  go_wp2_with (first
    | (go_at_call 14; (with_reducible refine C1.out.mono ?_); rintro e w1 ⟨rfl, rfl⟩)
    | (go_at_call 14; (with_reducible refine C2.out.mono ?_); rintro e w1 ⟨rfl, rfl⟩))
  go_end0
  exact ⟨rfl, rfl⟩

def bytesV (l : List Nat) : List Value := l.map fun (b : Nat) => Value.int .u8 (b : Int)
def CM.Bytes (l : List Nat) : Prop := ∀ b ∈ l, b < 256
def sumF (s : BitVec 32) (l : List Nat) : BitVec 32 := ~~~(reg (~~~s) l)

theorem not32 (x : BitVec 32) : bits BinOp.xor IntKind.u32 IntKind.u32.max (x.toNat : Int) = ((~~~x).toNat : Int) := by
  have h := xor32 (BitVec.allOnes 32) x
  have e : ((BitVec.allOnes 32).toNat : Int) = IntKind.u32.max := by decide +kernel
  rw [e, BitVec.allOnes_xor] at h
  exact h

def SumRel (w : World) (ns : BitVec 32) (l : List Nat) (i : Value) (wr : World) : Prop :=
  ∃ j : Nat, j ≤ l.length ∧ i = .int .i64 j ∧ From w wr ∧ wr.cell? ⟨w.heap.size, 0, none⟩ = some (.int .u32 ((reg ns (l.take j)).toNat : Int)) ∧ wr.frozen? ⟨w.heap.size, 0, none⟩ = false

theorem sum_next {w wr : World} {ns : BitVec 32} {l : List Nat} {j : Nat} (hlt : j < l.length) (hw : From w wr) {u : Value} (hc : wr.cell? ⟨w.heap.size, 0, none⟩ = some u) (hf : wr.frozen? ⟨w.heap.size, 0, none⟩ = false) :
    SumRel w ns l (.int .i64 ((j : Int) + 1)) (wr.setCell ⟨w.heap.size, 0, none⟩ (.int .u32 ((reg ns (l.take (j + 1))).toNat : Int))) :=
  ⟨j + 1, by omega, by go_num, hw.set_ (Nat.le_refl _) _, World.cell?_setCell_same wr _ _ hc, by rw [World.frozen?_setCell]; exact hf⟩

set_option maxRecDepth 100000 in
set_option maxHeartbeats 400000 in
theorem sum_any (s : BitVec 32) (v : Value) (l : List Nat) (w : World) (hr : Row w v (bytesV l)) (hl : CM.Bytes l) (hlen : l.length ≤ 140737488351232) (hT : Table w) :
    Calls Tryd.prog 7 #[.int .u32 (s.toNat : Int), v] w fun e w' => e = .returned (.int .u32 ((sumF s l).toNat : Int)) ∧ From w w' := by
  obtain ⟨A, cap, rfl, hrow⟩ := row_vals hr
  have hn := not32 s
  have HT := Lib.hid (fun w' (h : From w w') => hT.from_ h)
  have hres : sumF s l = ~~~(reg (~~~s) l) := rfl
  rw [hres]
  clear hres
  generalize ~~~s = ns at *
  have hfin := not32 (reg ns l)
  generalize ~~~(reg ns l) = out at *
  have HF := Lib.hid hfin
  clear hT hr hfin
  go_enter Tryd.func7, Tryd.ntmps7
  go_wp2
  go_loopw [13] (SumRel w ns l) (fun i _ => l.length - (intOf i).toNat)
  case atStart =>
    exact ⟨0, by omega, rfl, From.rfl_.new _, (Blk.new w _ _).cell 0, World.frozen?_alloc_new _ _ _ _⟩
  case round =>
    obtain ⟨j, hj, rfl, hw, hc, hf⟩ := hrel
    by_cases hlt : j < l.length
    · obtain ⟨b, o, rfl, hb, hcell⟩ := hrow (by omega)
      have d1 := (hw.cells b (o + j) hb).trans (hcell j hlt)
      have i1 : (0 : Int) ≤ (j : Int) := by omega
      have i2 : (j : Int) < (l.length : Int) := by omega
      have hx : l[j] < 256 := hl _ (List.getElem_mem hlt)
      have hsn : reg ns (l.take (j + 1)) = step8 (reg ns (l.take j) ^^^ BitVec.ofNat 32 l[j]) := by
        rw [List.take_succ_eq_append_getElem hlt, reg_app]
        rfl
      have ct := take_any w.heap.size (reg ns (l.take j)) l[j] wr hx (HT.out wr hw) hc hf
      rw [← hsn] at ct
      have CT := Lib.hid ct
      clear ct hsn hcell hrow hl hn
      generalize l[j] = x at *
      go_wp2_with (go_at_call 13; (with_reducible refine CT.out.mono ?_); rintro e w1 ⟨rfl, rfl⟩)
      go_roundw
      case rel => exact sum_next hlt hw hc hf
      case measure => simp [intOf]; omega
    · obtain hjl : j = l.length := by omega
      rw [hjl, List.take_length] at hc
      clear hj hjl
      generalize (reg ns l).toNat = r at *
      go_wp2
      go_ret
      exact ⟨ret_int HF.out, hw⟩

def b8 (c : BitVec 32) : Nat → BitVec 32
  | 0 => c
  | k + 1 => bstep (b8 c k)
theorem b8_eight (c : BitVec 32) : b8 c 8 = step8 c := by
  have h := half_is
  simp only [b8, step8, h]

theorem bstep_one {c : BitVec 32} (h : (c &&& 1#32).toNat = 1) : bstep c = (c >>> 1) ^^^ 3988292384#32 := by
  unfold bstep
  rw [if_pos (BitVec.eq_of_toNat_eq (by rw [h]; rfl))]
theorem bstep_zero {c : BitVec 32} (h : (c &&& 1#32).toNat ≠ 1) : bstep c = c >>> 1 := by
  unfold bstep
  rw [if_neg (fun e => h (by rw [e]; rfl))]

def RefRel (w : World) (ns : BitVec 32) (l : List Nat) (c i : Value) (wr : World) : Prop :=
  ∃ j : Nat, j ≤ l.length ∧ i = .int .i64 j ∧ From w wr ∧ c = .int .u32 ((reg ns (l.take j)).toNat : Int)
def RefRel2 (w : World) (c0 : BitVec 32) (c k : Value) (wr : World) : Prop :=
  ∃ q : Nat, q ≤ 8 ∧ k = .int .i64 q ∧ From w wr ∧ c = .int .u32 ((b8 c0 q).toNat : Int)

set_option maxRecDepth 100000 in
set_option maxHeartbeats 400000 in
theorem refsum_any (s : BitVec 32) (v : Value) (l : List Nat) (w : World) (hr : Row w v (bytesV l)) (hl : CM.Bytes l) (hlen : l.length ≤ 140737488351232) :
    Calls Tryd.prog 8 #[.int .u32 (s.toNat : Int), v] w fun e w' => e = .returned (.int .u32 ((sumF s l).toNat : Int)) ∧ From w w' := by
  obtain ⟨A, cap, rfl, hrow⟩ := row_vals hr
  have hn := not32 s
  have hres : sumF s l = ~~~(reg (~~~s) l) := rfl
  rw [hres]
  clear hres
  generalize ~~~s = ns at *
  have hfin := not32 (reg ns l)
  generalize ~~~(reg ns l) = out at *
  have HF := Lib.hid hfin
  clear hr hfin
  go_enter Tryd.func8, Tryd.ntmps8
  go_wp2
  go_loopw [5, 6] (RefRel w ns l) (fun _ i _ => l.length - (intOf i).toNat)
  case atStart => exact ⟨0, by omega, rfl, From.rfl_, rfl⟩
  case round =>
    obtain ⟨j, hj, rfl, hw, rfl⟩ := hrel
    by_cases hlt : j < l.length
    · obtain ⟨b, o, rfl, hb, hcell⟩ := hrow (by omega)
      have d1 := (hw.cells b (o + j) hb).trans (hcell j hlt)
      have i1 : (0 : Int) ≤ (j : Int) := by omega
      have i2 : (j : Int) < (l.length : Int) := by omega
      have hx : l[j] < 256 := hl _ (List.getElem_mem hlt)
      have e1 := xor32 (reg ns (l.take j)) (BitVec.ofNat 32 l[j])
      have hbn : ((BitVec.ofNat 32 l[j]).toNat : Int) = (l[j] : Int) := by rw [BitVec.toNat_ofNat, Nat.mod_eq_of_lt (by omega)]
      rw [hbn] at e1
      have hsn : reg ns (l.take (j + 1)) = b8 (reg ns (l.take j) ^^^ BitVec.ofNat 32 l[j]) 8 := by
        rw [List.take_succ_eq_append_getElem hlt, reg_app, b8_eight]
        rfl
      have HS := Lib.hid hsn
      clear hsn hbn hcell hrow hl hn
      generalize reg ns (l.take j) ^^^ BitVec.ofNat 32 l[j] = c0 at *
      generalize (reg ns (l.take j)).toNat = r0 at *
      generalize l[j] = x at *
      have hd : decide (j < l.length) = true := by simp; omega
      generalize hc0 : c0.toNat = p0 at *
      have HC0 := Lib.hid hc0
      clear hc0
      go_wp2
      go_loopw [5, 7] (RefRel2 w c0) (fun _ k _ => 8 - (intOf k).toNat)
      case atStart => exact ⟨0, by omega, rfl, hw, by simp only [b8]; rw [HC0.out]⟩
      case round =>
        obtain ⟨q, hq, rfl, hw2, rfl⟩ := hrel
        by_cases hq8 : q < 8
        · have g1 := and1_u32 (b8 c0 q)
          have g2 := shr1 (b8 c0 q)
          have g3 := xor32 ((b8 c0 q) >>> 1) 3988292384#32
          rw [← g2] at g3
          have hb8 : b8 c0 (q + 1) = bstep (b8 c0 q) := rfl
          by_cases hone : ((b8 c0 q) &&& 1#32).toNat = 1
          · have ht : (bits BinOp.and IntKind.u32 ((b8 c0 q).toNat : Int) 1 == 1) = true := by rw [g1, hone]; rfl
            rw [bstep_one hone] at hb8
            rw [← hb8] at g3
            have G3 := Lib.hid g3
            clear g1 g2 g3 hone hb8
            generalize (b8 c0 q).toNat = y at *
            go_wp2
            go_roundw
            case rel => exact ⟨q + 1, by omega, by go_num, hw2, by exact congrArg (Value.int .u32) G3.out⟩
            case measure => simp [intOf]; omega
          · have ht : (bits BinOp.and IntKind.u32 ((b8 c0 q).toNat : Int) 1 == 1) = false := by
              rw [g1, beq_eq_false_iff_ne]
              intro h
              apply hone
              generalize ((b8 c0 q) &&& 1#32).toNat = m at h ⊢
              omega
            rw [bstep_zero hone] at hb8
            rw [← hb8] at g2
            have G2 := Lib.hid g2
            clear g1 g2 g3 hone hb8
            generalize (b8 c0 q).toNat = y at *
            go_wp2
            go_roundw
            case rel => exact ⟨q + 1, by omega, by go_num, hw2, by exact congrArg (Value.int .u32) G2.out⟩
            case measure => simp [intOf]; omega
        · obtain hq8' : q = 8 := by omega
          have hh := HS.out
          rw [← hq8'] at hh
          have HH := Lib.hid hh
          clear hh hq8'
          generalize (b8 c0 q) = y at *
          generalize hz : y.toNat = z at *
          have HZ := Lib.hid hz
          clear hz
          go_wp2
          go_roundw
          case rel => exact ⟨j + 1, by omega, by go_num, hw2, by rw [HH.out, HZ.out]⟩
          case measure => simp [intOf]; omega
    · obtain hjl : j = l.length := by omega
      rw [hjl, List.take_length]
      clear hj hjl
      generalize (reg ns l).toNat = r at *
      go_wp2
      go_ret
      exact ⟨ret_int HF.out, hw⟩
end Go.Proofs.YtkhiookiibjklaaDoor
