/- Walks of package sum and its reference. -/
import Derived.Test.YtjliefglelcooaaDoorMgRpcAny3
import Derived.Laws.IdiomStrings
import Derived.Laws.StructEq
import Derived.Deep.AppendLies
import Derived.Test.YtjliefglelcooaaDoorMgRpcAny2
import Derived.Laws.BitsAllLaws
import Derived.Test.YtjliefglelcooaaDoorMgRpcAny1
namespace Go.Proofs.YtjliefglelcooaaDoor
open Go.RowKit

/-- string(b), by rows -/
theorem conv_str {w : World} {src dst e : TypeId} (hs : Tryd.prog.underlying src = some (.slice e)) (he : Tryd.prog.underlying e = some (.int .u8)) (hd : Tryd.prog.underlying dst = some .string)
    {v : Value} {l : List Nat} (hl : ∀ b ∈ l, b < 256) (hr : RowC w v (bytesV l)) : (convert src dst v).run Tryd.prog w = .ok (.string (strOf l)) w := by
  obtain ⟨A, cap, rfl, _, _, hp⟩ := hr.parts
  rw [bytesV_length] at hp ⊢
  cases A with
  | none =>
    have h0 : l = [] := by
      cases l with
      | nil => rfl
      | cons x t =>
        obtain ⟨b, o, hA, _⟩ := hp (by simp)
        cases hA
    subst h0
    rw [run_convert_bytes_string w src dst e none _ cap hs he hd]
    rfl
  | some a =>
    have hm : (l.map UInt8.ofNat).length = l.length := by simp
    have := run_convert_bytes_back (P := Tryd.prog) w src dst e a cap (l.map UInt8.ofNat) hs he hd (fun j hj => by
      have hj' : j < l.length := by simpa using hj
      obtain ⟨b, o, hA, _, hc⟩ := hp (by omega)
      simp only [Option.some.injEq] at hA
      subst hA
      rw [Go.WideShapes.add_plain]
      have hb := hl _ (List.getElem_mem hj')
      rw [hc j (.int .u8 (l[j] : Nat)) (by simp [bytesV, hj'])]
      simp only [List.getElem_map, UInt8.toNat_ofNat']
      congr 2
      omega)
    rw [hm] at this
    exact this
theorem str_info : (Tryd.prog.info? 9).map (fun i => (i.zero, i.size, i.bytes)) = some (some (.string ⟨#[]⟩), 1, 16) := by kernel_rfl
def GotB (w w' : World) (e : Ending) : Option (List ByteArray) → Prop
  | none => e = .returned (.tuple #[.slice none 0 0, .int .i64 1])
  | some ss => ∃ v', e = .returned (.tuple #[v', .int .i64 0]) ∧ w'.ownsRow w.heap.size 9 1 v' ss.length (ss.map .string)
/-- the loop: so many texts read, so many bytes left -/
def GetRel (w : World) (c : Nat) (whole : Option (List ByteArray × List Nat)) (vb u i : Value) (wr : World) : Prop :=
  ∃ (j : Nat) (ss : List ByteArray) (rest : List Nat), i = .int .i64 (j : Nat) ∧ j ≤ c ∧ RowC w vb (bytesV rest) ∧ (∀ b ∈ rest, b < 256) ∧ rest.length ≤ 1048576 ∧
    wr.ownsRow w.heap.size 9 1 u j (ss.map .string) ∧ whole = (getStrs (c - j) rest).map (fun x => (ss ++ x.1, x.2)) ∧ From w wr

set_option maxRecDepth 100000 in
set_option maxHeartbeats 1000000 in
theorem get_any (v : Value) (l : List Nat) (hl : ∀ b ∈ l, b < 256) (w : World) (hr : RowC w v (bytesV l)) :
    Calls Tryd.prog 17 #[v] w fun e w' => GotB w w' e (getB l) ∧ From w w' := by
  obtain ⟨A, cap, rfl, hc1, hc2, _⟩ := hr.parts
  rw [bytesV_length] at hc1 hr ⊢
  obtain ⟨i0, hi0, hz0, hz1, hz2⟩ := info_parts str_info
  by_cases hbig : 1048576 < l.length
  · have hd : decide ((1048576 : Int) < (l.length : Int)) = true := by simp; omega
    have hn : getB l = none := by unfold getB; rw [if_pos hbig]
    have HN := Lib.hid hn
    clear hn
    go_enter Tryd.func17, Tryd.ntmps17
    go_wp2
    go_ret2
    rw [HN.out]
    exact ⟨rfl, From.rfl_⟩
  have hd : decide ((1048576 : Int) < (l.length : Int)) = false := by simp; omega
  have hget := getnum_any _ l hl w hr
  rcases hg : getNum l with _ | ⟨c, k⟩
  · rw [hg] at hget
    simp only [gotV] at hget
    have hn : getB l = none := by unfold getB; rw [if_neg hbig, hg]
    have HN := Lib.hid hn
    have HG := Lib.hid hget
    clear hn hg hget
    go_enter Tryd.func17, Tryd.ntmps17
    go_wp2_with (go_at_call 33; (with_reducible refine HG.out.mono ?_); rintro e w1 ⟨rfl, rfl⟩)
    go_ret2
    rw [HN.out]
    exact ⟨rfl, From.rfl_⟩
  rw [hg] at hget
  simp only [gotV] at hget
  have hk := getNum_bound hl hg
  by_cases hcl : l.length < c
  · have hd2 : decide ((l.length : Int) < (c : Int)) = true := by simp; omega
    have hn : getB l = none := by unfold getB; rw [if_neg hbig, hg]; simp only; rw [if_pos hcl]
    have HN := Lib.hid hn
    have HG := Lib.hid hget
    clear hn hg hget
    go_enter Tryd.func17, Tryd.ntmps17
    go_wp2_with (go_at_call 33; (with_reducible refine HG.out.mono ?_); rintro e w1 ⟨rfl, rfl⟩)
    go_ret2
    rw [HN.out]
    exact ⟨rfl, From.rfl_⟩
  have hd2 : decide ((l.length : Int) < (c : Int)) = false := by simp; omega
  have hB : getB l = match getStrs c (l.drop k) with | some (ss, []) => some ss | _ => none := by unfold getB; rw [if_neg hbig, hg]; simp only; rw [if_neg hcl]; rfl
  have hrest := hr.rest (k := k) (by rw [bytesV_length]; omega)
  have hdrop : (bytesV l).drop k = bytesV (l.drop k) := by simp [bytesV, List.map_drop]
  rw [hdrop] at hrest
  have hra : (if cap = k then A else Option.map (fun x => x.add k) A) = restA A cap k := rfl
  have j1 : (0 : Int) ≤ (k : Int) := by omega
  have j2 : (k : Int) ≤ (l.length : Int) := by omega
  have j3 : (k : Int) ≤ (cap : Int) := by omega
  have HB := Lib.hid hB
  have HG := Lib.hid hget
  clear hB hg hget
  have hck : c ≤ 1048576 := by omega
  go_enter Tryd.func17, Tryd.ntmps17
  go_wp2_with (first
    | (go_at_call 33; (with_reducible refine HG.out.mono ?_); rintro e w1 ⟨rfl, rfl⟩)
    | (refine wpList_make_own (P := Tryd.prog) _ rfl _ _ _ rfl w.heap.size 9 i0 _ 1 Tryd.underlying46 hi0 hz0 hz1 .i64 .i64 _ c rfl rfl rfl (by rw [hz2]; omega) (by unfold maxLen; omega) (Nat.le_refl _) ?_; intro w1 hown1 hg1))
  have hw1 : From w w1 := From.rfl_.grew hg1 (fun k hk => by cases hk)
  go_loopw [0, 7, 34] (GetRel w c (getStrs c (l.drop k))) (fun _ _ i _ => c - (intOf i).toNat)
  case atStart => exact ⟨0, [], l.drop k, rfl, by omega, hrest, fun b hb => hl b (List.mem_of_mem_drop hb), by rw [List.length_drop]; omega, by simpa using hown1, by simp, hw1⟩
  case round =>
    rename_i vb u _ _
    obtain ⟨j, ss, rest, rfl, hj, hrow, hrb, hrl, hown, hwhole, hw⟩ := hrel
    clear hrest hra hown1 hg1 hr
    obtain ⟨A2, cap2, rfl, hcc1, hcc2, _⟩ := hrow.parts
    rw [bytesV_length] at hcc1 hrow ⊢
    have hgetr := fun w' (h : From w w') => getnum_any _ rest hrb w' (hrow.from_ h)
    by_cases hlt : j < c
    · have hd3 : decide ((j : Int) < (c : Int)) = true := by simp; omega
      obtain ⟨d, hd4⟩ : ∃ d, c - j = d + 1 := ⟨c - j - 1, by omega⟩
      rw [hd4] at hwhole
      simp only [getStrs] at hwhole
      rcases hgr : getNum rest with _ | ⟨n, q⟩
      · rw [hgr] at hgetr hwhole
        simp only [gotV] at hgetr
        have hB : getB l = none := by rw [HB.out, hwhole]; rfl
        have H1 := Lib.hid hgetr
        have HN := Lib.hid hB
        clear hgetr hgr hwhole hown hB
        go_wp2_with (go_at_call 33; (with_reducible refine (H1.out _ hw).mono ?_); rintro e w2 ⟨rfl, rfl⟩)
        go_ret2
        rw [HN.out]
        exact ⟨rfl, hw⟩
      have hq := getNum_bound hrb hgr
      rw [hgr] at hgetr hwhole
      simp only [gotV] at hgetr hwhole
      by_cases hbad : rest.length - q < n
      · rw [if_pos hbad] at hwhole
        have hd5 : decide ((rest.length : Int) - (q : Int) < (n : Int)) = true := by simp; omega
        have hB : getB l = none := by rw [HB.out, hwhole]; rfl
        have H1 := Lib.hid hgetr
        have HN := Lib.hid hB
        clear hgetr hgr hwhole hown hB
        go_wp2_with (go_at_call 33; (with_reducible refine (H1.out _ hw).mono ?_); rintro e w2 ⟨rfl, rfl⟩)
        go_ret2
        rw [HN.out]
        exact ⟨rfl, hw⟩
      · rw [if_neg hbad] at hwhole
        have hd5 : decide ((rest.length : Int) - (q : Int) < (n : Int)) = false := by simp; omega
        obtain ⟨p, hp⟩ : ∃ p, p = q + n := ⟨_, rfl⟩
        have hsum : (q : Int) + (n : Int) = (p : Int) := by omega
        have hpl : p ≤ rest.length := by omega
        have hqp : q ≤ p := by omega
        have hcut := (hrow.cut (k := p) (by rw [bytesV_length]; omega)).rest (k := q) (by rw [List.length_take, bytesV_length]; omega)
        have hpart : ((bytesV rest).take p).drop q = bytesV ((rest.drop q).take n) := by
          have : p - q = n := by omega
          simp only [bytesV]
          rw [List.drop_take, this, List.map_take, List.map_drop]
        have hsub : p - q = n := by omega
        rw [hpart, hsub] at hcut
        have hconv := fun w' (h : From w w') => conv_str Tryd.underlying23 Tryd.underlying5 Tryd.underlying9 (fun b hb => hrb b (List.mem_of_mem_drop (List.mem_of_mem_take hb))) (hcut.from_ h)
        have hnext := hrow.rest (k := p) (by rw [bytesV_length]; omega)
        have hnd : (bytesV rest).drop p = bytesV (rest.drop p) := by simp [bytesV, List.map_drop]
        rw [hnd] at hnext
        have hra1 : (if cap2 = q then A2 else Option.map (fun x => x.add q) A2) = restA A2 cap2 q := rfl
        have hra2 : (if cap2 = p then A2 else Option.map (fun x => x.add p) A2) = restA A2 cap2 p := rfl
        have k1 : (0 : Int) ≤ (q : Int) := by omega
        have k2 : (q : Int) ≤ (p : Int) := by omega
        have k3 : (p : Int) ≤ (cap2 : Int) := by omega
        have k4 : (p : Int) ≤ (rest.length : Int) := by omega
        have H1 := Lib.hid hgetr
        have HW := Lib.hid (And.intro hwhole hp)
        have hr1 : (j + 1) * 16 ≤ 140737488355328 := by omega
        have hr2 : j + 1 ≤ maxLen := by unfold maxLen; omega
        have HO := Lib.hid hown
        clear hgetr hgr hwhole hp hown hpart hcut hnd
        go_wp2_with (first
          | (go_at_call 33; (with_reducible refine (H1.out _ hw).mono ?_); rintro e w2 ⟨rfl, rfl⟩)
          | (at_builtin; refine wpList_push w rfl (.tmp 52) (.tmp 60) 46 rfl 9 i0 _ 16 Tryd.underlying46 hi0 hz0 hz1 hz2 rfl _ _ _ rfl HO.out hw rfl rfl hr1 hr2 ?_; intro v3 w3 hown3 hw3))
        go_roundw
        case rel =>
          refine ⟨j + 1, ss ++ [strOf ((rest.drop q).take n)], rest.drop p, by go_num, by omega, hnext, fun b hb => hrb b (List.mem_of_mem_drop hb), by rw [List.length_drop]; omega, ?_, ?_, hw3⟩
          · rw [List.map_append]
            exact hown3
          · rw [HW.out.1, HW.out.2, show c - (j + 1) = d by omega]
            cases getStrs d (List.drop (q + n) rest) <;> simp
        case measure => simp [intOf]; omega
    · have hd3 : decide ((j : Int) < (c : Int)) = false := by simp; omega
      rw [show c - j = 0 by omega] at hwhole
      simp only [getStrs, Option.map_some, List.append_nil] at hwhole
      have hsl : ss.length = j := by simpa using hown.1
      have HW := Lib.hid (And.intro hwhole hsl)
      have HO := Lib.hid hown
      clear hwhole hown hgetr hsl
      by_cases hend : 0 < rest.length
      · have hd6 : decide ((0 : Int) < (rest.length : Int)) = true := by simp; omega
        have hB : getB l = none := by
          rw [HB.out, HW.out.1]
          cases rest with
          | nil => simp at hend
          | cons x t => rfl
        have HN := Lib.hid hB
        clear hB
        go_wp2
        go_ret2
        rw [HN.out]
        exact ⟨rfl, hw⟩
      · have hd6 : decide ((0 : Int) < (rest.length : Int)) = false := decide_eq_false (by omega)
        have hB : getB l = some ss := by
          rw [HB.out, HW.out.1]
          cases rest with
          | nil => rfl
          | cons x t => simp at hend
        have HN := Lib.hid hB
        clear hB
        go_wp2
        go_ret2
        rw [HN.out]
        exact ⟨⟨_, rfl, by rw [HW.out.2]; exact HO.out⟩, hw⟩

end Go.Proofs.YtjliefglelcooaaDoor

namespace Go.Proofs.YtjliefglelcooaaDoor
open Go.RowKit

abbrev cmdV (k c s : Int) (i t : ByteArray) : Value := .agg #[.int .i64 k, .int .i64 c, .int .i64 s, .string i, .string t]
abbrev cmdL (k c s : Int) (i t : ByteArray) : List Value := [.int .i64 k, .int .i64 c, .int .i64 s, .string i, .string t]
theorem toList_inj {a b : ByteArray} : a.toList = b.toList ↔ a = b := by
  refine ⟨fun hh => ?_, fun h => by rw [h]⟩
  rw [ByteArray.toList_eq, ByteArray.toList_eq] at hh
  obtain ⟨⟨x⟩⟩ := a
  obtain ⟨⟨y⟩⟩ := b
  simp_all
section
variable {ρ : Operand → Value} {w : World} {yt : TypeId} {x y : Operand}
theorem ro_convStr {v : Value} {l : List Nat} (hl : ∀ b ∈ l, b < 256) (hx : ρ x = v) (hr : RowC w v (bytesV l)) : RO Tryd.prog ρ (.convert 23 9 x) w (.string (strOf l)) w := fun _ _ _ _ _ => by
  subst hx
  have h := conv_str (src := 23) (dst := 9) (e := 5) (by kernel_rfl) (by kernel_rfl) (by kernel_rfl) hl hr
  simp [execOp, h]
end
theorem bytes_of (w : World) (s : ByteArray) (hs : s.size ≤ 9223372036854775807) : ∃ A cap w', (convert 9 23 (.string s)).run Tryd.prog w = .ok (.slice A s.size cap) w' ∧ From w w' ∧ RowC w' (.slice A s.size cap) (bytesV (strB s)) := by
  refine ⟨_, _, _, run_bytes_of_string w 9 23 5 s (by kernel_rfl) (by kernel_rfl) (by kernel_rfl), From.rfl_.d1.new _, ?_⟩
  have hge := grownCap_ge w s.size 0 5
  have hlen : (bytesV (strB s)).length = s.size := by unfold bytesV; rw [List.length_map, strB_length]
  refine ⟨⟨some ⟨w.heap.size, 0, none⟩, grownCap w s.size 0 5, by rw [hlen], fun _ => ⟨w.heap.size, 0, rfl, ?_, fun i u hu => ?_⟩⟩, some ⟨w.heap.size, 0, none⟩, _, by rw [hlen], by rw [hlen]; exact hge, grownCap_le_maxLen w s.size 0 5 hs⟩
  · show w.heap.size < (w.heap.push _).size
    simp
  · have hi : i < s.size := by
      have := (List.getElem?_eq_some_iff.1 hu).1
      omega
    have hu2 : (bytesRow s (grownCap w s.size 0 5))[i]? = some u := by
      unfold bytesRow
      rw [Array.getElem?_append_left (by simp; exact hi), ← hu]
      unfold bytesV strB
      simp
      rfl
    have hb : (w.drew.alloc (.cells (bytesRow s (grownCap w s.size 0 5)) 5 ((bytesRow s (grownCap w s.size 0 5)).size, (bytesRow s (grownCap w s.size 0 5)).size + 1))).heap[w.heap.size]? = some (.cells (bytesRow s (grownCap w s.size 0 5)) 5 ((bytesRow s (grownCap w s.size 0 5)).size, (bytesRow s (grownCap w s.size 0 5)).size + 1)) := by
      show (w.heap.push _)[w.heap.size]? = _
      simp
    rw [Nat.zero_add]
    unfold World.cell?
    simp only [hb]
    simpa using hu2
theorem st_convB {ops : Array Oper} {Q : Exit → Act → World → Prop} {rest : List Oper} {n : Nat} {L : List (Nat × Value)} {w : World} {ty : TypeId} {pos : String} {after : Array Edge} {d : Nat} {x : Operand} {s : ByteArray} (hx : ev n L x = .string s) (hs : s.size ≤ 9223372036854775807)
    (k : ∀ A c w', From w w' → RowC w' (.slice A s.size c) (bytesV (strB s)) → St Tryd.prog ops Q rest n ((d, .slice A s.size c) :: L) w') : St Tryd.prog ops Q (⟨some d, .convert 9 23 x, ty, pos, after, none⟩ :: rest) n L w := by
  obtain ⟨A, c, w', h1, h2, h3⟩ := bytes_of w s hs
  refine st_val (v := .slice A s.size c) (w' := w') (fun _ _ _ _ _ => ?_) (k A c w' h2 h3)
  simp only [execOp, hx, Sem.run_bind, h1, Result.andThen_ok]
  rfl
/-! ### which commands may be -/
def OkC (k c s : Int) (i t : ByteArray) : Prop := (k = 1 ∧ c = 0 ∧ s = 0 ∧ i.size = 0 ∧ t.size = 0) ∨ (k ≠ 1 ∧ (1 ≤ c ∧ c < 1099511627776) ∧ (1 ≤ s ∧ s < 1099511627776) ∧ i.size + t.size ≤ 2048 ∧ (k = 2 ∨ (k = 3 ∧ t.size = 0) ∨ (k = 4 ∧ i.size = 0 ∧ t.size = 0)))
instance (k c s : Int) (i t : ByteArray) : Decidable (OkC k c s i t) := by unfold OkC; exact inferInstance
theorem size0 {s : ByteArray} : s = ⟨#[]⟩ ↔ s.size = 0 := by
  refine ⟨fun h => by rw [h]; rfl, fun h => ?_⟩
  obtain ⟨d⟩ := s
  have : d.size = 0 := h
  rw [Array.size_eq_zero_iff] at this
  rw [this]
theorem size0' {s : ByteArray} : ⟨#[]⟩ = s ↔ s.size = 0 := by rw [eq_comm]; exact size0
theorem beq0 (s : ByteArray) : (s.toList == (⟨#[]⟩ : ByteArray).toList) = decide (s.size = 0) := by
  rw [Bool.eq_iff_iff, beq_iff_eq, decide_eq_true_eq, toList_inj]
  exact size0
end Go.Proofs.YtjliefglelcooaaDoor

namespace Go.Proofs.YtjliefglelcooaaDoor
open Go.RowKit

def edgesB (l : List Oper) : Bool := (List.range l.length).all fun i => match l[i]? with
  | none => false
  | some o => o.guard.isNone && o.after.toList.all fun e => !Region.binds .any e || decide (e.on < i)
def setB (S : Nat → Bool) (i : Nat) : Nat → Bool := fun j => if j = i then true else S j
/-- one operation runs, and the invariant holds behind it -/
def StepI (P : Program) (n : Nat) (o : Oper) (Inv : List (Nat × Value) → World → Prop) (L' : List (Nat × Value)) (w' : World) : Prop :=
  (∃ d v w'', o.dst = some d ∧ (execOp (ev n L') o).run P w' = .ok (.value v) w'' ∧ Inv ((d, v) :: L') w'') ∨
  (∃ w'', o.dst = none ∧ (execOp (ev n L') o).run P w' = .ok .skip w'' ∧ Inv L' w'') ∨
  (∃ d f args, o.dst = some d ∧ (execOp (ev n L') o).run P w' = .ok (.enter f (List.toArray args)) w' ∧ Rt P f args w' fun v w'' => Inv ((d, v) :: L') w'')
section
variable {P : Program} {Q : Exit → Act → World → Prop} {n : Nat} {L : List (Nat × Value)} {w : World} {l : List Oper}
theorem inv_any {Inv : (Nat → Bool) → List (Nat × Value) → World → Prop} (hwf : edgesB l = true)
    (hstep : ∀ (i : Nat) (o : Oper) (S : Nat → Bool) (L' : List (Nat × Value)) (w' : World), l[i]? = some o → Inv S L' w' → S i = false → (∀ e ∈ o.after, Region.binds .any e = true → S e.on = true) → StepI P n o (Inv (setB S i)) L' w')
    (hend : ∀ L' w', Inv (fun i => decide (i < l.length)) L' w' → Q .normal (mkA n L') w') :
    ∀ (m : Nat) (listed : Array Bool) (L' : List (Nat × Value)) (w' : World), listed.toList.count false = m → listed.size = l.length → Inv (fun i => listed.getD i false) L' w' → wpAny P .any l.toArray Q m listed (mkA n L') w' := by
  have hck := List.all_eq_true.1 hwf
  intro m
  induction m with
  | zero =>
    intro listed L' w' hcount hs hI
    have hall : ∀ i, i < l.length → listed.getD i false = true := fun i hi => by
      have hm : listed[i]'(by omega) ∈ listed.toList := by simp
      cases hb : listed[i]'(by omega) with
      | true => simp [Array.getD, show i < listed.size by omega, hb]
      | false => rw [hb] at hm; exact absurd hcount (Nat.pos_iff_ne_zero.1 (List.count_pos_iff.2 hm))
    have e : (fun i => listed.getD i false) = fun i => decide (i < l.length) := by
      funext i
      by_cases hi : i < l.length
      · rw [hall i hi, decide_eq_true hi]
      · rw [decide_eq_false hi]
        simp [Array.getD, show ¬ i < listed.size by omega]
    rw [e] at hI
    refine ⟨?_, hend L' w' hI⟩
    cases hr : Region.ready .any l.toArray listed with
    | nil => rfl
    | cons i r =>
      exfalso
      obtain ⟨h0, o, ho, _⟩ := mem_ready.1 (show i ∈ Region.ready .any l.toArray listed by rw [hr]; simp)
      rw [List.getElem?_toArray] at ho
      have hil : i < l.length := (List.getElem?_eq_some_iff.1 ho).1
      have := hall i hil
      rw [← getD_true_false (by omega), h0] at this
      cases this
  | succ m ih =>
    intro listed L' w' hcount hs hI
    have hn0 : ∃ i, i < l.length ∧ listed.getD i true = false := by
      have hpos : 0 < listed.toList.count false := by omega
      obtain ⟨i, hi, hb⟩ := List.getElem_of_mem (List.count_pos_iff.1 hpos)
      rw [Array.length_toList] at hi
      refine ⟨i, by omega, ?_⟩
      rw [Array.getElem_toList] at hb
      simp [Array.getD, hi, hb]
    obtain ⟨i0, hi0, hmin⟩ := exists_least (p := fun i => i < l.length ∧ listed.getD i true = false) hn0
    have hready : i0 ∈ Region.ready .any l.toArray listed := by
      refine mem_ready.2 ⟨hi0.2, l[i0]'hi0.1, by rw [List.getElem?_toArray, List.getElem?_eq_getElem hi0.1], fun e he hb => ?_⟩
      have hx := hck i0 (List.mem_range.2 hi0.1)
      rw [List.getElem?_eq_getElem hi0.1] at hx
      simp only [Bool.and_eq_true] at hx
      have he2 := List.all_eq_true.1 hx.2 e (by simpa using he)
      rw [hb] at he2
      simp at he2
      have := hi0.1
      rw [← getD_true_false (by omega)]
      cases hb2 : listed.getD e.on true with
      | true => rfl
      | false => exact absurd (hmin e.on ⟨by omega, hb2⟩) (by omega)
    refine ⟨fun h0 => (by rw [h0] at hready; cases hready), fun i hi => ?_⟩
    obtain ⟨h0, o, ho, hall⟩ := mem_ready.1 hi
    rw [List.getElem?_toArray] at ho
    have hil : i < l.length := (List.getElem?_eq_some_iff.1 ho).1
    have hx := hck i (List.mem_range.2 hil)
    rw [ho] at hx
    simp only [Bool.and_eq_true] at hx
    have hg : o.guard = none := by simpa using hx.1
    have h0f : listed.getD i false = false := by rw [← getD_true_false (by omega)]; exact h0
    have hset : (fun j => (listed.setIfInBounds i true).getD j false) = setB (fun j => listed.getD j false) i := by
      funext j
      unfold setB
      by_cases e : j = i
      · subst e
        simp [Array.getD, show j < listed.size by omega]
      · rw [if_neg e, getD_set_ne false (Ne.symm e)]
    have hcnt : (listed.setIfInBounds i true).toList.count false = m := by
      have hil' : i < listed.size := by omega
      have hfalse : listed.toList[i]? = some false := by
        rw [Array.getElem?_toList, Array.getElem?_eq_getElem hil']
        simp [Array.getD, hil'] at h0
        rw [h0]
      rw [Array.toList_setIfInBounds]
      have := count_set_true (l := listed.toList) (i := i) hfalse
      omega
    have next : ∀ L2 w2, Inv (setB (fun j => listed.getD j false) i) L2 w2 → wpAny P .any l.toArray Q m (listed.setIfInBounds i true) (mkA n L2) w2 := fun L2 w2 h =>
      ih _ L2 w2 hcnt (by simpa using hs) (by rw [hset]; exact h)
    unfold wpOp
    rw [List.getElem?_toArray, ho]
    show if Region.wanted o (yielded l.toArray (mkT n L')) = true then _ else _
    rw [if_pos (by unfold Region.wanted; rw [hg])]
    refine .inl ?_
    unfold Oper.wp
    rw [eval_mkA]
    rcases hstep i o _ L' w' ho hI h0f hall with ⟨d, v, w'', hd, hr, hI2⟩ | ⟨w'', hd, hr, hI2⟩ | ⟨d, f, args, hd, hr, hc⟩
    · rw [hr, Oper.upon_value, hd, put_mkA]
      exact next _ _ hI2
    · rw [hr, Oper.upon_skip, hd]
      exact next _ _ hI2
    · rw [hr, Oper.upon_enter, hd]
      refine Calls.mono hc fun e w'' ⟨v, he, hI2⟩ => ?_
      subst he
      show wpAny P .any l.toArray Q m (listed.setIfInBounds i true) ((mkA n L').put (some d) v) w''
      rw [put_mkA]
      exact next _ _ hI2
/-- a region that draws its order, by an invariant -/
theorem cd_inv {id : Nat} (Inv : (Nat → Bool) → List (Nat × Value) → World → Prop) (hm : P.follows .mixedOrders = true) (hwf : edgesB l = true) (h0 : Inv (fun _ => false) L { w with drawn := w.drawn + 1 })
    (hstep : ∀ (i : Nat) (o : Oper) (S : Nat → Bool) (L' : List (Nat × Value)) (w' : World), l[i]? = some o → Inv S L' w' → S i = false → (∀ e ∈ o.after, Region.binds .any e = true → S e.on = true) → StepI P n o (Inv (setB S i)) L' w')
    (hend : ∀ L' w', Inv (fun i => decide (i < l.length)) L' w' → Q .normal (mkA n L') w') : Cd P (.region id l.toArray true) Q n L w := by
  refine ⟨wp_region_any hm ?_⟩
  have := inv_any (Q := Q) hwf hstep hend l.length (Array.replicate l.length false) L { w with drawn := w.drawn + 1 } (by simp) (by simp) (by
    have e : (fun i => (Array.replicate l.length false).getD i false) = fun _ => false := by
      funext i
      by_cases hi : i < l.length <;> simp [Array.getD, hi]
    rw [e]
    exact h0)
  simpa using this
theorem step_ro {d : Nat} {op : Op} {ty : TypeId} {pos : String} {after : Array Edge} {v : Value} {w' w'' : World} {L' : List (Nat × Value)} {Inv : List (Nat × Value) → World → Prop} (h : RO P (ev n L') op w' v w'') (hI : Inv ((d, v) :: L') w'') : StepI P n ⟨some d, op, ty, pos, after, none⟩ Inv L' w' :=
  .inl ⟨d, v, w'', rfl, h _ _ _ _ _, hI⟩
theorem step_rs {op : Op} {ty : TypeId} {pos : String} {after : Array Edge} {w' w'' : World} {L' : List (Nat × Value)} {Inv : List (Nat × Value) → World → Prop} (h : RS P (ev n L') op w' w'') (hI : Inv L' w'') : StepI P n ⟨none, op, ty, pos, after, none⟩ Inv L' w' :=
  .inr (.inl ⟨w'', rfl, h _ _ _ _ _, hI⟩)
theorem step_call {d : Nat} {f : FuncId} {al : List Operand} {ats : Array TypeId} {ty : TypeId} {pos : String} {after : Array Edge} {w' : World} {L' : List (Nat × Value)} {Inv : List (Nat × Value) → World → Prop} (hf : callable P f = true) (hc : Rt P f (al.map (ev n L')) w' fun v w'' => Inv ((d, v) :: L') w'') : StepI P n ⟨some d, .call { callee := .value (.func f), args := al.toArray, argTypes := ats }, ty, pos, after, none⟩ Inv L' w' :=
  .inr (.inr ⟨d, f, al.map (ev n L'), rfl, by rw [exec_call (fun _ => rfl), run_call hf], hc⟩)
/-! ### the values of the slots, by a table: (operation, slot, value) -/
def InvL (L : List (Nat × Value)) (T : List (Nat × Nat × Value)) (S : Nat → Bool) (L' : List (Nat × Value)) : Prop :=
  (∀ t, (∀ p ∈ T, p.2.1 ≠ t) → look L' t = look L t) ∧ (∀ p ∈ T, S p.1 = true → look L' p.2.1 = p.2.2) ∧ ∀ p ∈ T, S p.1 = false → look L' p.2.1 = look L p.2.1
def UniT : List (Nat × Nat × Value) → Prop
  | [] => True
  | p :: r => (∀ q ∈ r, q.1 ≠ p.1 ∧ q.2.1 ≠ p.2.1) ∧ UniT r
theorem uni_eq : ∀ {T : List (Nat × Nat × Value)}, UniT T → ∀ {p q : Nat × Nat × Value}, p ∈ T → q ∈ T → p.1 = q.1 ∨ p.2.1 = q.2.1 → p = q
  | _ :: _, ⟨h1, h2⟩, p, q, hp, hq, he => by
    rcases List.mem_cons.1 hp with rfl | hp' <;> rcases List.mem_cons.1 hq with rfl | hq'
    · rfl
    · rcases he with e | e
      · exact absurd e.symm (h1 _ hq').1
      · exact absurd e.symm (h1 _ hq').2
    · rcases he with e | e
      · exact absurd e (h1 _ hp').1
      · exact absurd e (h1 _ hp').2
    · exact uni_eq h2 hp' hq' he
theorem InvL.put {T : List (Nat × Nat × Value)} {S : Nat → Bool} {L' : List (Nat × Value)} {i d : Nat} {v : Value} (h : InvL L T S L') (hU : UniT T) (hp : (i, d, v) ∈ T) : InvL L T (setB S i) ((d, v) :: L') := by
  refine ⟨fun t ht => ?_, fun p hq hs => ?_, fun p hq hs => ?_⟩
  · rw [look_cons, if_neg (fun e => ht _ hp e.symm)]
    exact h.1 t ht
  · rw [look_cons]
    by_cases e : p.2.1 = d
    · rw [if_pos e, uni_eq hU hq hp (.inr e)]
    · rw [if_neg e]
      refine h.2.1 p hq ?_
      unfold setB at hs
      by_cases e2 : p.1 = i
      · exact absurd (congrArg (·.2.1) (uni_eq hU hq hp (.inl e2))) e
      · rwa [if_neg e2] at hs
  · unfold setB at hs
    by_cases e2 : p.1 = i
    · rw [if_pos e2] at hs; cases hs
    · rw [if_neg e2] at hs
      rw [look_cons, if_neg (fun e => e2 (congrArg (·.1) (uni_eq hU hq hp (.inr e))))]
      exact h.2.2 p hq hs
theorem InvL.skip {T : List (Nat × Nat × Value)} {S : Nat → Bool} {L' : List (Nat × Value)} {i : Nat} (h : InvL L T S L') (hi : ∀ p ∈ T, p.1 ≠ i) : InvL L T (setB S i) L' := by
  refine ⟨h.1, fun p hq hs => h.2.1 p hq ?_, fun p hq hs => h.2.2 p hq ?_⟩ <;> (unfold setB at hs; rwa [if_neg (hi p hq)] at hs)
theorem InvL.get {T : List (Nat × Nat × Value)} {S : Nat → Bool} {L' : List (Nat × Value)} {i d : Nat} {v : Value} (h : InvL L T S L') (hp : (i, d, v) ∈ T) (hs : S i = true) : look L' d = v := h.2.1 _ hp hs
theorem InvL.old {T : List (Nat × Nat × Value)} {S : Nat → Bool} {L' : List (Nat × Value)} {i d : Nat} {v : Value} (h : InvL L T S L') (hp : (i, d, v) ∈ T) (hs : S i = false) : look L' d = look L d := h.2.2 _ hp hs
def EdgesOn (S : Nat → Bool) : List Edge → Prop
  | [] => True
  | e :: r => (bif Region.binds .any e then S e.on = true else True) ∧ EdgesOn S r
theorem edges_on {S : Nat → Bool} : ∀ {es : List Edge}, (∀ e ∈ es, Region.binds .any e = true → S e.on = true) → EdgesOn S es
  | [], _ => trivial
  | e :: r, h => by
    refine ⟨?_, edges_on fun e' he => h e' (.tail _ he)⟩
    cases hb : Region.binds .any e with
    | true => exact h e (.head _) hb
    | false => trivial
def StepsT (P : Program) (n : Nat) (L : List (Nat × Value)) (T : List (Nat × Nat × Value)) (Mem : (Nat → Bool) → World → Prop) : Nat → List Oper → Prop
  | _, [] => True
  | i, o :: r => (∀ S L' w', InvL L T S L' → Mem S w' → S i = false → EdgesOn S o.after.toList → StepI P n o (fun L2 w2 => InvL L T (setB S i) L2 ∧ Mem (setB S i) w2) L' w') ∧ StepsT P n L T Mem (i + 1) r
theorem stepsT_at {T : List (Nat × Nat × Value)} {Mem : (Nat → Bool) → World → Prop} : ∀ {r : List Oper} {k : Nat}, StepsT P n L T Mem k r → ∀ (i : Nat) (o : Oper), r[i]? = some o → ∀ S L' w', InvL L T S L' → Mem S w' → S (k + i) = false → EdgesOn S o.after.toList → StepI P n o (fun L2 w2 => InvL L T (setB S (k + i)) L2 ∧ Mem (setB S (k + i)) w2) L' w'
  | [], _, _, i, o, h => by simp at h
  | x :: r, k, ⟨h1, h2⟩, 0, o, h => by
    simp only [List.getElem?_cons_zero, Option.some.injEq] at h
    subst h
    exact h1
  | x :: r, k, ⟨h1, h2⟩, i + 1, o, h => by
    have := stepsT_at h2 i o (by simpa using h)
    rwa [show k + 1 + i = k + (i + 1) by omega] at this
theorem look_tab {T : List (Nat × Nat × Value)} (hU : UniT T) {L L' : List (Nat × Value)} {S : Nat → Bool} (h : InvL L T S L') (hS : ∀ p ∈ T, S p.1 = true) (t : Nat) : look L' t = look (T.map (fun p => (p.2.1, p.2.2)) ++ L) t := by
  have key : ∀ T' : List (Nat × Nat × Value), (∀ p ∈ T', p ∈ T) → (∃ p ∈ T', p.2.1 = t) ∨ (∀ p ∈ T', p.2.1 ≠ t) → (∃ p ∈ T', p.2.1 = t ∧ look (T'.map (fun p => (p.2.1, p.2.2)) ++ L) t = p.2.2) ∨ ((∀ p ∈ T', p.2.1 ≠ t) ∧ look (T'.map (fun p => (p.2.1, p.2.2)) ++ L) t = look L t) := by
    intro T'
    induction T' with
    | nil => exact fun _ _ => .inr ⟨fun p hp => by simp at hp, rfl⟩
    | cons q r ih =>
      intro hsub _
      rw [List.map_cons, List.cons_append, look_cons]
      by_cases e : q.2.1 = t
      · rw [if_pos e.symm]
        exact .inl ⟨q, .head _, e, rfl⟩
      · rw [if_neg (Ne.symm e)]
        rcases ih (fun p hp => hsub p (.tail _ hp)) (by by_cases hx : ∃ p ∈ r, p.2.1 = t; exact .inl hx; exact .inr fun p hp he => hx ⟨p, hp, he⟩) with ⟨p, hp, h1, h2⟩ | ⟨h1, h2⟩
        · exact .inl ⟨p, .tail _ hp, h1, h2⟩
        · refine .inr ⟨fun p hp => ?_, h2⟩
          rcases List.mem_cons.1 hp with rfl | hp2
          · exact e
          · exact h1 p hp2
  rcases key T (fun _ hp => hp) (by by_cases hx : ∃ p ∈ T, p.2.1 = t; exact .inl hx; exact .inr fun p hp he => hx ⟨p, hp, he⟩) with ⟨p, hp, h1, h2⟩ | ⟨h1, h2⟩
  · rw [h2, ← h1]
    exact h.2.1 p hp (hS p hp)
  · rw [h2]
    exact h.1 t h1
theorem cd_invT {id : Nat} (T : List (Nat × Nat × Value)) (Mem : (Nat → Bool) → World → Prop) (hm : P.follows .mixedOrders = true) (hwf : edgesB l = true) (hU : UniT T) (hlt : ∀ p ∈ T, p.1 < l.length) (h0 : Mem (fun _ => false) { w with drawn := w.drawn + 1 })
    (hstep : StepsT P n L T Mem 0 l) (hend : ∀ w', Mem (fun i => decide (i < l.length)) w' → Q .normal (mkA n (T.map (fun p => (p.2.1, p.2.2)) ++ L)) w') : Cd P (.region id l.toArray true) Q n L w := by
  refine cd_inv (fun S L' w' => InvL L T S L' ∧ Mem S w') hm hwf ⟨⟨fun _ _ => rfl, fun _ _ h => (by cases h), fun _ _ _ => rfl⟩, h0⟩ (fun i o S L' w' ho ⟨hI, hM⟩ hS hE => ?_) fun L' w' ⟨hI, hM⟩ => ?_
  · have := stepsT_at hstep i o ho S L' w' hI hM (by rw [Nat.zero_add]; exact hS) (edges_on fun e he => hE e (by simpa using he))
    rwa [Nat.zero_add] at this
  · have h := hend w' hM
    have e : mkA n L' = mkA n (T.map (fun p => (p.2.1, p.2.2)) ++ L) := by
      unfold mkA
      rw [mkT_congr fun t _ => look_tab hU hI (fun p hp => decide_eq_true (hlt p hp)) t]
    rw [e]
    exact h
theorem rs_put {t : TypeId} {x y : Operand} {g i : Nat} {u : TypeId} {cs : Array Value} {v : Value} (ht : sizeQ P t = some 1) (hx : ev n L x = .pointer (some ⟨g, i, none⟩)) (hy : ev n L y = v) (h1 : v.oneCell' = true) (hb : Blk w g u cs) (hi : i < cs.size) :
    ∃ w', RS P (ev n L) (.store t x y) w w' ∧ Only g w w' ∧ Blk w' g u (cs.setIfInBounds i v) := by
  have hc : w.cell? ⟨g, i, none⟩ = some (cs[i]'hi) := by rw [hb.cell]; simp [hi]
  exact ⟨_, rs_store ht hx hy h1 hc (hb.frozen i), Only.setCell w g i v, hb.set_ i v⟩
end
end Go.Proofs.YtjliefglelcooaaDoor

namespace Go.Proofs.YtjliefglelcooaaDoor
open Go.RowKit

/-- a row of the call's own, from an offset on, of one cell an element -/
def OwnO (w : World) (base : Nat) (e : TypeId) (A : Option Addr) (n c : Nat) (xs : List Value) : Prop :=
  xs.length = n ∧ n ≤ c ∧ c ≤ maxLen ∧ ∃ g off cs, A = some ⟨g, off, none⟩ ∧ base ≤ g ∧ Blk w g e cs ∧ off + c ≤ cs.size ∧ (cs.toList.drop off).take n = xs
theorem OwnO.of_own {w : World} {base : Nat} {e : TypeId} {A : Option Addr} {n c : Nat} {xs : List Value} (h : w.ownsRow base e 1 (.slice A n c) n xs) (hn : 0 < n) : OwnO w base e A n c xs := by
  have hl : xs.length = n := by simpa using h.1
  rcases h.2 with ⟨h0, _⟩ | ⟨g, cap, cur, hv, hbg, hg, hnc, hcm, hcs, htake⟩
  · simp only [Value.slice.injEq] at h0
    omega
  · simp only [Value.slice.injEq] at hv
    obtain ⟨rfl, _, rfl⟩ := hv
    exact ⟨hl, hnc, hcm, g, 0, cur, rfl, hbg, hg, by omega, by simpa using htake⟩
theorem OwnO.at_ {w : World} {base : Nat} {e : TypeId} {A : Option Addr} {n c : Nat} {xs : List Value} (h : OwnO w base e A n c xs) : ∀ k, A.map (·.block) = some k → base ≤ k ∧ k < w.heap.size := by
  obtain ⟨_, _, _, g, off, cs, rfl, hb, hB, _⟩ := h
  intro k hk
  cases hk
  exact ⟨hb, hB.lt⟩
theorem OwnO.grown {w w' : World} {base : Nat} {e : TypeId} {A : Option Addr} {n c : Nat} {xs : List Value} {r : Option Nat} (h : OwnO w base e A n c xs) (hg : w.grownBy w' r) (hne : ∀ k, A.map (·.block) = some k → r ≠ some k) : OwnO w' base e A n c xs := by
  obtain ⟨h1, h2, h3, g, off, cs, rfl, hb, hB, h4, h5⟩ := h
  exact ⟨h1, h2, h3, g, off, cs, rfl, hb, hB.grown hg (fun k hk e => hne g rfl (by rw [hk, e])), h4, h5⟩
theorem OwnO.from_ {w w' : World} {base : Nat} {e : TypeId} {A : Option Addr} {n c : Nat} {xs : List Value} (h : OwnO w base e A n c xs) (hF : From w w') : OwnO w' base e A n c xs := by
  obtain ⟨h1, h2, h3, g, off, cs, rfl, hb, hB, h4, h5⟩ := h
  exact ⟨h1, h2, h3, g, off, cs, rfl, hb, hB.from_ hF, h4, h5⟩
theorem OwnO.row {α : Type} {f : α → Value} {w : World} {base : Nat} {e : TypeId} {A : Option Addr} {n c : Nat} {l : List α} (h : OwnO w base e A n c (l.map f)) : n = l.length ∧ RowOf f w A l := by
  obtain ⟨h1, h2, h3, g, off, cs, rfl, hb, hB, h4, h5⟩ := h
  rw [List.length_map] at h1
  refine ⟨h1.symm, fun _ => ⟨g, off, rfl, fun i hi => ?_⟩⟩
  rw [hB.cell]
  have : ((cs.toList.drop off).take n)[i]? = (l.map f)[i]? := by rw [h5]
  rw [List.getElem?_take_of_lt (by omega), List.getElem?_drop] at this
  rw [← Array.getElem?_toList, this]
  simp [hi]
/-- the first ones of it -/
theorem OwnO.take {w : World} {base : Nat} {e : TypeId} {A : Option Addr} {n c m : Nat} {xs : List Value} (h : OwnO w base e A n c xs) (hm : m ≤ n) : OwnO w base e A m c (xs.take m) := by
  obtain ⟨h1, h2, h3, g, off, cs, rfl, hb, hB, h4, h5⟩ := h
  exact ⟨by rw [List.length_take]; omega, by omega, h3, g, off, cs, rfl, hb, hB, h4, by rw [← h5, List.take_take, Nat.min_eq_left hm]⟩
/-- what is behind its first one -/
theorem OwnO.tail {w : World} {base : Nat} {e : TypeId} {g off n c : Nat} {xs : List Value} (h : OwnO w base e (some ⟨g, off, none⟩) (n + 1) c xs) : OwnO w base e (some ⟨g, off + 1, none⟩) n (c - 1) (xs.drop 1) := by
  obtain ⟨h1, h2, h3, g', off', cs, hA, hb, hB, h4, h5⟩ := h
  cases hA
  refine ⟨by rw [List.length_drop]; omega, by omega, by omega, g, off + 1, cs, rfl, hb, hB, by omega, ?_⟩
  rw [← h5, List.drop_take, List.drop_drop]
  simp
theorem run_append_roomO {P : Program} (w : World) (t ty e : TypeId) (i : TypeInfo) (ht : P.underlying t = some (.slice e)) (hi : P.info? e = some i) (h1s : i.size = 1)
    (g off sLen sCap : Nat) (cur : Array Value) (hg : w.heap[g]? = some (.cells cur e (0, 0)))
    (a : Addr) (m c : Nat) (news : List Value) (hl : news.length = m) (hnews : ∀ j u, news[j]? = some u → w.cell? (a.add j) = some u) (h1 : ∀ u ∈ news, u.oneCell' = true)
    (hroom : sLen + m ≤ sCap) (hfit : off + sLen + news.length ≤ cur.size) :
    (Builtin.append_ #[t, t] ty #[.slice (some ⟨g, off, none⟩) sLen sCap, .slice (some a) m c]).run P w =
      .ok (.slice (some ⟨g, off, none⟩) (sLen + m) sCap) (w.setRow g (cur.toList.take (off + sLen) ++ news ++ cur.toList.drop (off + sLen + news.length)).toArray) := by
  have hf := run_firstCells_some (P := P) w i.size m a m c news (by rw [h1s, Nat.mul_one]; exact hl) hnews
  have hst := run_storeCells_at P g (off + sLen) e news 0 cur w hg (by simpa using hfit) h1
  simp only [Nat.add_zero] at hst
  rw [h1s] at hf
  simp [Builtin.append_, run_underlying ht, sizeOf, typeInfo, hi, h1s, Builtin.lenOf, hroom, hf, Addr.add_mid, hst]
theorem ro_appendO {P : Program} {ρ : Operand → Value} {w : World} {s x : Operand} {t base : Nat} {A A2 : Option Addr} {m j cap c2 e by_ : Nat} {z : Value} {xs news : List Value} (hq : litQ P t = some (e, 1, by_, z)) (hzs : z.cells.size = 1)
    (hs : ρ s = .slice A m cap) (hown : OwnO w base e A m cap xs) (hB : base ≤ w.heap.size)
    (hx : ρ x = .slice A2 j c2) (hl : news.length = j) (hsrc : ∃ b o, A2 = some ⟨b, o, none⟩ ∧ w.rangeAt b o news) (h1 : ∀ u ∈ news, u.oneCell' = true) (h63 : m + j ≤ 9223372036854775807) (hby : (m + j) * by_ ≤ 140737488355328) :
    ∃ A' cap' w', RO P ρ (.call { callee := .builtin .append, args := #[s, x], argTypes := #[t, t] }) w (.slice A' (m + j) cap') w' ∧ OwnO w' base e A' (m + j) cap' (xs ++ news) ∧ w.grownBy w' (A.map (·.block)) := by
  obtain ⟨i, hu, hi, hsz, hb, hz⟩ := lit_of hq
  obtain ⟨b, o, rfl, hr⟩ := hsrc
  obtain ⟨g1, g2, g3, g, off, cur, rfl, hbg, hg, g4, g5⟩ := hown
  have hnews : ∀ k u, news[k]? = some u → w.cell? ((⟨b, o, none⟩ : Addr).add k) = some u := fun k u hk => by rw [Addr.add_mid]; exact hr k u hk
  have key : ∀ ty, ∃ A' cap' w', (Builtin.append_ #[t, t] ty #[.slice (some ⟨g, off, none⟩) m cap, .slice (some ⟨b, o, none⟩) j c2]).run P w = .ok (.slice A' (m + j) cap') w' ∧ OwnO w' base e A' (m + j) cap' (xs ++ news) ∧ w.grownBy w' (some g) := fun ty => by
    by_cases hroom : m + j ≤ cap
    · have hrun := run_append_roomO w t ty e i hu hi hsz g off m cap cur hg _ j c2 news hl hnews h1 hroom (by omega)
      refine ⟨_, _, _, hrun, ⟨by rw [List.length_append]; omega, hroom, g3, g, off, _, rfl, hbg, setRow_heap w g cur _ e _ hg, ?_, ?_⟩, ⟨rfl, rfl, rfl, by simp, fun k _ hk => setRow_other w g k _ (fun e => hk (by rw [e]))⟩⟩
      · simp only [List.size_toArray, List.length_append, List.length_take, List.length_drop, Array.length_toList]
        omega
      · show ((List.take (off + m) cur.toList ++ news ++ List.drop (off + m + news.length) cur.toList).drop off).take (m + j) = xs ++ news
        have hcl : cur.toList.length = cur.size := Array.length_toList
        rw [List.append_assoc, List.drop_append_of_le_length (by rw [List.length_take]; omega), List.drop_take, show off + m - off = m by omega, g5, ← List.append_assoc]
        exact List.take_left' (by rw [List.length_append]; omega)
    · have holds : ∀ k u, xs[k]? = some u → w.cell? ((⟨g, off, none⟩ : Addr).add k) = some u := fun k u hk => by
        rw [Addr.add_mid]
        have hkl : k < m := by have := (List.getElem?_eq_some_iff.1 hk).1; omega
        rw [hg.cell, ← Array.getElem?_toList, ← List.getElem?_drop, ← hk, ← g5, List.getElem?_take_of_lt hkl]
      have hrun := run_append_grow (P := P) w t ty e i z hu hi hz ⟨g, off, none⟩ m cap xs (by rw [hsz, Nat.mul_one]; exact g1) holds ⟨b, o, none⟩ j c2 news (by rw [hsz, Nat.mul_one]; exact hl) hnews (by omega) (by omega) (by rw [hb]; exact growslice_fits (by omega) hby)
      have hge := grownCap_ge w (m + j) cap e
      refine ⟨_, _, _, hrun, ⟨by rw [List.length_append]; omega, hge, grownCap_le_maxLen w (m + j) cap e (by unfold maxLen; omega), w.heap.size, 0, _, rfl, hB, heap_alloc_new w.drew _, ?_, ?_⟩, ⟨rfl, rfl, rfl, by simp, fun k hk _ => heap_alloc_old w.drew _ hk⟩⟩
      · simp only [Array.size_append, List.size_toArray, size_zeroCells, hzs, g1, hl]
        omega
      · simp only [Array.toList_append, List.drop_zero]
        exact List.take_left' (by rw [List.length_append]; omega)
  obtain ⟨A', cap', w', hrun, hown', hgr⟩ := key 0
  refine ⟨A', cap', w', fun dst ty pos after g => ?_, hown', hgr⟩
  have hty : ∀ y : Value, (Builtin.append_ #[t, t] ty #[y, .slice (some ⟨b, o, none⟩) j c2]).run P w = (Builtin.append_ #[t, t] 0 #[y, .slice (some ⟨b, o, none⟩) j c2]).run P w := fun _ => rfl
  unfold execOp
  simp only [resolve, invoke, builtin, Sem.run_bind, Sem.run_pure, Result.andThen_ok, List.map_toArray, List.map_cons, List.map_nil, hs, hx, hty, hrun]
/-! ### a drawn region by an invariant, operation by operation -/
section
variable {P : Program} {Q : Exit → Act → World → Prop} {n : Nat} {L : List (Nat × Value)} {w : World} {l : List Oper}
def StepsI (P : Program) (n : Nat) (Inv : (Nat → Bool) → List (Nat × Value) → World → Prop) : Nat → List Oper → Prop
  | _, [] => True
  | i, o :: r => (∀ S L' w', Inv S L' w' → S i = false → EdgesOn S o.after.toList → StepI P n o (Inv (setB S i)) L' w') ∧ StepsI P n Inv (i + 1) r
theorem stepsI_at {Inv : (Nat → Bool) → List (Nat × Value) → World → Prop} : ∀ {r : List Oper} {k : Nat}, StepsI P n Inv k r → ∀ (i : Nat) (o : Oper), r[i]? = some o → ∀ S L' w', Inv S L' w' → S (k + i) = false → EdgesOn S o.after.toList → StepI P n o (Inv (setB S (k + i))) L' w'
  | [], _, _, i, o, h => by simp at h
  | x :: r, k, ⟨h1, h2⟩, 0, o, h => by
    simp only [List.getElem?_cons_zero, Option.some.injEq] at h
    subst h
    exact h1
  | x :: r, k, ⟨h1, h2⟩, i + 1, o, h => by
    have := stepsI_at h2 i o (by simpa using h)
    rwa [show k + 1 + i = k + (i + 1) by omega] at this
theorem cd_invS {id : Nat} (Inv : (Nat → Bool) → List (Nat × Value) → World → Prop) (hm : P.follows .mixedOrders = true) (hwf : edgesB l = true) (h0 : Inv (fun _ => false) L { w with drawn := w.drawn + 1 })
    (hstep : StepsI P n Inv 0 l) (hend : ∀ L' w', Inv (fun i => decide (i < l.length)) L' w' → Q .normal (mkA n L') w') : Cd P (.region id l.toArray true) Q n L w :=
  cd_inv Inv hm hwf h0 (fun i o S L' w' ho hI hS hE => by
    have := stepsI_at hstep i o ho S L' w' hI (by rw [Nat.zero_add]; exact hS) (edges_on fun e he => hE e (by simpa using he))
    rwa [Nat.zero_add] at this) hend
theorem inv_mkA {T : List (Nat × Nat × Value)} {S : Nat → Bool} {L' : List (Nat × Value)} (hU : UniT T) (hS : ∀ p ∈ T, S p.1 = true) (hI : InvL L T S L') : mkA n L' = mkA n (T.map (fun p => (p.2.1, p.2.2)) ++ L) := by
  unfold mkA
  rw [mkT_congr fun t _ => look_tab hU hI hS t]
/-- another value for what has not run -/
theorem InvL.swap {T T' : List (Nat × Nat × Value)} {S : Nat → Bool} {L' : List (Nat × Value)} (h : InvL L T S L') (h1 : T'.map (·.2.1) = T.map (·.2.1)) (h2 : ∀ p ∈ T', S p.1 = true → p ∈ T) (h3 : ∀ p ∈ T', ∃ q ∈ T, q.1 = p.1 ∧ q.2.1 = p.2.1) : InvL L T' S L' := by
  refine ⟨fun t ht => h.1 t fun p hp e => ?_, fun p hp hs => h.2.1 p (h2 p hp hs) hs, fun p hp hs => ?_⟩
  case refine_2 =>
    obtain ⟨q, hq, e1, e2⟩ := h3 p hp
    rw [← e2]
    exact h.2.2 q hq (by rw [e1]; exact hs)
  have : p.2.1 ∈ T'.map (·.2.1) := by rw [h1]; exact List.mem_map.2 ⟨p, hp, rfl⟩
  obtain ⟨q, hq, e2⟩ := List.mem_map.1 this
  exact ht q hq (by rw [e2, e])
/-- with values that are not known ahead -/
theorem cd_invE {id : Nat} {X : Type} (T : X → List (Nat × Nat × Value)) (Mem : (Nat → Bool) → X → World → Prop) (hm : P.follows .mixedOrders = true) (hwf : edgesB l = true) (hU : ∀ x, UniT (T x)) (hlt : ∀ x, ∀ p ∈ T x, p.1 < l.length) (x0 : X) (h0 : Mem (fun _ => false) x0 { w with drawn := w.drawn + 1 })
    (hstep : StepsI P n (fun S L' w' => ∃ x, InvL L (T x) S L' ∧ Mem S x w') 0 l) (hend : ∀ x w', Mem (fun i => decide (i < l.length)) x w' → Q .normal (mkA n ((T x).map (fun p => (p.2.1, p.2.2)) ++ L)) w') : Cd P (.region id l.toArray true) Q n L w :=
  cd_invS (fun S L' w' => ∃ x, InvL L (T x) S L' ∧ Mem S x w') hm hwf ⟨x0, ⟨fun _ _ => rfl, fun _ _ h => (by cases h), fun _ _ _ => rfl⟩, h0⟩ hstep fun L' w' ⟨x, hI, hM⟩ => by
    rw [inv_mkA (hU x) (fun p hp => decide_eq_true (hlt x p hp)) hI]
    exact hend x w' hM
end
section
variable {P : Program} {ρ : Operand → Value} {w : World} {t : TypeId} {x : Operand} {e g off c n : Nat}
theorem ro_takeN {m : Nat} {y : Operand} {k : IntKind} (ht : elemQ P t = some (e, 1)) (hx : ρ x = .slice (some ⟨g, off, none⟩) n c) (hy : ρ y = .int k (m : Nat)) (hm : m ≤ c) : RO P ρ (.slice t x none (some y) none) w (.slice (some ⟨g, off, none⟩) m c) w := by
  have := ro_slice (P := P) (ρ := ρ) (w := w) (l := 0) (h := m) ht (lo := none) (hi := some y) hx (.inl ⟨rfl, rfl⟩) (.inr ⟨y, k, rfl, hy⟩) (Nat.zero_le _) hm
  simpa using this
theorem ro_dropN {m : Nat} {y : Operand} {k : IntKind} (ht : elemQ P t = some (e, 1)) (hx : ρ x = .slice (some ⟨g, off, none⟩) n c) (hy : ρ y = .int k (m : Nat)) (hm : m ≤ n) (hn : n ≤ c) : RO P ρ (.slice t x (some y) none none) w (.slice (some ⟨g, if c = m then off else off + m, none⟩) (n - m) (c - m)) w := by
  have := ro_slice (P := P) (ρ := ρ) (w := w) (l := m) (h := n) ht (lo := some y) (hi := none) hx (.inr ⟨y, k, rfl, hy⟩) (.inl ⟨rfl, rfl⟩) hm hn
  simpa using this
end
/-- append, and where the row lies behind it -/
theorem ro_appendL {P : Program} {ρ : Operand → Value} {w : World} {s x : Operand} {t base : Nat} {A A2 : Option Addr} {m j cap c2 e size by_ : Nat} {z : Value} {xs news : List Value} (hq : litQ P t = some (e, size, by_, z)) (hzs : z.cells.size = size) (hs0 : 0 < size)
    (hs : ρ s = .slice A m cap) (hown : w.ownsRow base e size (.slice A m cap) m xs) (hB : base ≤ w.heap.size)
    (hx : ρ x = .slice A2 j c2) (hl : news.length = j * size) (hsrc : ∃ b o, A2 = some ⟨b, o, none⟩ ∧ w.rangeAt b o news) (h1 : ∀ u ∈ news, u.oneCell' = true) (h63 : m + j ≤ 9223372036854775807) (hby : (m + j) * by_ ≤ 140737488355328) :
    ∃ A' cap' w', RO P ρ (.call { callee := .builtin .append, args := #[s, x], argTypes := #[t, t] }) w (.slice A' (m + j) cap') w' ∧ w'.ownsRow base e size (.slice A' (m + j) cap') (m + j) (xs ++ news) ∧ w.grownBy w' (A.map (·.block)) ∧ (A'.map (·.block) = A.map (·.block) ∨ A'.map (·.block) = some w.heap.size) := by
  obtain ⟨i, hu, hi, hsz, hb, hz⟩ := lit_of hq
  obtain ⟨b, o, rfl, hr⟩ := hsrc
  have hobl : ∀ (A : Option Addr) (m c : Nat), (Value.slice A m c).ownBlock = A.map (·.block) := fun A m c => by cases A <;> rfl
  obtain ⟨v', w', hrun, hown', hg, _, h5⟩ := run_append_own_at (P := P) w base t 0 e i z size by_ hu hi hz hsz hb hzs hs0 _ m xs hown ⟨b, o, none⟩ j c2 news hl (fun i u hu => by rw [Addr.add_mid]; exact hr i u hu) h1 (by unfold maxLen; omega) hby hB
  obtain ⟨A', cap', rfl⟩ := own_form hown'
  rw [hobl, hobl] at h5
  refine ⟨A', cap', w', fun dst ty pos after g => ?_, hown', by rw [← hobl A m cap]; exact hg, h5⟩
  have hty : (Builtin.append_ #[t, t] ty #[.slice A m cap, .slice (some ⟨b, o, none⟩) j c2]).run P w = (Builtin.append_ #[t, t] 0 #[.slice A m cap, .slice (some ⟨b, o, none⟩) j c2]).run P w := rfl
  unfold execOp
  simp only [resolve, invoke, builtin, Sem.run_bind, Sem.run_pure, Result.andThen_ok, List.map_toArray, List.map_cons, List.map_nil, hs, hx, hty, hrun]
end Go.Proofs.YtjliefglelcooaaDoor

namespace Go.Proofs.YtjliefglelcooaaDoor
open Go.RowKit
open Go.ChangeShapes Go.WideShapes Go.ChangeAt
theorem RpcChk_l64 : (elemQ Tryd.prog 64).isSome = true := by kernel_rfl
theorem RpcChk_e64 : elemQ Tryd.prog 64 = some (3, 1) := by kernel_rfl
theorem RpcChk_g3 : aggQ Tryd.prog 3 = some false := by kernel_rfl
theorem RpcChk_f27_4 : fieldQ Tryd.prog 27 4 = some 4 := by kernel_rfl
theorem RpcChk_f27_5 : fieldQ Tryd.prog 27 5 = some 5 := by kernel_rfl
theorem RpcChk_f27_6 : fieldQ Tryd.prog 27 6 = some 6 := by kernel_rfl
theorem RpcChk_f27_7 : fieldQ Tryd.prog 27 7 = some 7 := by kernel_rfl
theorem RpcChk_f27_10 : fieldQ Tryd.prog 27 10 = some 10 := by kernel_rfl
theorem RpcChk_q64 : litQ Tryd.prog 64 = some (3, 1, 8, (.int .i64 0)) := by kernel_rfl
theorem RpcChk_k26 : callable Tryd.prog 26 = true := by kernel_rfl
theorem RpcChk_f27_8 : fieldQ Tryd.prog 27 8 = some 8 := by kernel_rfl
theorem RpcChk_g4 : aggQ Tryd.prog 4 = some false := by kernel_rfl
theorem RpcChk_f27_12 : fieldQ Tryd.prog 27 12 = some 12 := by kernel_rfl
theorem RpcChk_f27_11 : fieldQ Tryd.prog 27 11 = some 11 := by kernel_rfl
theorem RpcChk_g9 : aggQ Tryd.prog 9 = some false := by kernel_rfl
theorem RpcChk_f27_9 : fieldQ Tryd.prog 27 9 = some 9 := by kernel_rfl
theorem RpcChk_g25 : aggQ Tryd.prog 25 = some false := by kernel_rfl
theorem RpcChk_l25 : (elemQ Tryd.prog 25).isSome = true := by kernel_rfl
theorem RpcChk_o27 : zeroQ Tryd.prog 27 = some (.agg #[.int .i64 0, .int .i64 0, .int .i64 0, .int .i64 0, .int .i64 0, .int .i64 0, .int .i64 0, .int .i64 0, .bool false, .slice none 0 0, .int .i64 0, .string ⟨#[]⟩, .bool false]) := by kernel_rfl
theorem RpcChk_f27_0 : fieldQ Tryd.prog 27 0 = some 0 := by kernel_rfl
theorem RpcChk_z3 : sizeQ Tryd.prog 3 = some 1 := by kernel_rfl
theorem RpcChk_g27 : aggQ Tryd.prog 27 = some true := by kernel_rfl
theorem RpcChk_z27 : sizeQ Tryd.prog 27 = some 13 := by kernel_rfl
theorem RpcChk_z4 : sizeQ Tryd.prog 4 = some 1 := by kernel_rfl
theorem RpcChk_z25 : sizeQ Tryd.prog 25 = some 1 := by kernel_rfl
theorem RpcChk_z9 : sizeQ Tryd.prog 9 = some 1 := by kernel_rfl
def allIn (lo hi : Int) (xs : List Int) : Prop := ∀ x ∈ xs, lo ≤ x ∧ x ≤ hi
instance (lo hi : Int) (xs : List Int) : Decidable (allIn lo hi xs) := by unfold allIn; exact inferInstance
theorem allIn_nil {lo hi : Int} : allIn lo hi [] ↔ True := by simp [allIn]
theorem allIn_cons {lo hi x : Int} {l : List Int} : allIn lo hi (x :: l) ↔ (lo ≤ x ∧ x ≤ hi) ∧ allIn lo hi l := by simp [allIn]
theorem allIn_snoc {lo hi x : Int} {l : List Int} : allIn lo hi (l ++ [x]) ↔ allIn lo hi l ∧ (lo ≤ x ∧ x ≤ hi) := by
  simp only [allIn, List.mem_append, List.mem_singleton]
  exact ⟨fun h => ⟨fun y hy => h y (.inl hy), h x (.inr rfl)⟩, fun h y hy => hy.elim (h.1 y) (fun e => e ▸ h.2)⟩
theorem bz : (⟨#[]⟩ : ByteArray).size = 0 := rfl
theorem bool0 {b : Bool} : b = false ↔ b.toNat = 0 := by cases b <;> simp
/-- what hangs on the kind, of a message that may be -/
def ExR (k ix lt cm rd : Int) (ok : Bool) (n : Nat) (a : Int) (d : ByteArray) (dn : Bool) : Prop :=
  if k = 1 then cm = 0 ∧ rd = 0 ∧ ok.toNat = 0 ∧ n = 0 ∧ a = 0 ∧ d.size = 0 ∧ dn.toNat = 0
  else if k = 2 then ix = 0 ∧ lt = 0 ∧ cm = 0 ∧ rd = 0 ∧ n = 0 ∧ a = 0 ∧ d.size = 0 ∧ dn.toNat = 0
  else if k = 3 then ok.toNat = 0 ∧ a = 0 ∧ d.size = 0 ∧ dn.toNat = 0
  else if k = 4 then lt = 0 ∧ cm = 0 ∧ n = 0 ∧ a = 0 ∧ d.size = 0 ∧ dn.toNat = 0
  else if k = 5 then cm = 0 ∧ ok.toNat = 0 ∧ n = 0
  else if k = 6 then lt = 0 ∧ cm = 0 ∧ ok.toNat = 0 ∧ n = 0 ∧ d.size = 0 ∧ dn.toNat = 0
  else ix = 0 ∧ lt = 0 ∧ cm = 0 ∧ rd = 0 ∧ ok.toNat = 0 ∧ n = 0 ∧ a = 0 ∧ d.size = 0 ∧ dn.toNat = 0
instance (k ix lt cm rd : Int) (ok : Bool) (n : Nat) (a : Int) (d : ByteArray) (dn : Bool) : Decidable (ExR k ix lt cm rd ok n a d dn) := by unfold ExR; exact inferInstance
def NumR (k f t tm ix lt cm rd a : Int) : Prop := (1 ≤ k ∧ k ≤ 6) ∧ (1 ≤ f ∧ f ≤ 7) ∧ (1 ≤ t ∧ t ≤ 7) ∧ (0 ≤ tm ∧ tm ≤ 1099511627775) ∧ (0 ≤ ix ∧ ix ≤ 1099511627775) ∧ (0 ≤ lt ∧ lt ≤ 1099511627775) ∧ (0 ≤ cm ∧ cm ≤ 1099511627775) ∧ (0 ≤ rd ∧ rd ≤ 1099511627775) ∧ (0 ≤ a ∧ a ≤ 1099511627775)
instance (k f t tm ix lt cm rd a : Int) : Decidable (NumR k f t tm ix lt cm rd a) := by unfold NumR; exact inferInstance
def AppR (k ix lt : Int) (es : List Ent) : Prop := k = 3 → es.length ≤ 16 ∧ runs es ix lt = true
instance (k ix lt : Int) (es : List Ent) : Decidable (AppR k ix lt es) := by unfold AppR; exact inferInstance
def SnpR (k ix a : Int) (d : ByteArray) : Prop := k = 5 → (1 ≤ ix ∧ ix ≤ 1099511625728) ∧ a ≤ 524288 ∧ d.size ≤ 1024
instance (k ix a : Int) (d : ByteArray) : Decidable (SnpR k ix a d) := by unfold SnpR; exact inferInstance
/-- a message that may be -/
def OkR (k f t tm ix lt cm rd : Int) (ok : Bool) (es : List Ent) (a : Int) (d : ByteArray) (dn : Bool) : Prop :=
  NumR k f t tm ix lt cm rd a ∧ ExR k ix lt cm rd ok es.length a d dn ∧ AppR k ix lt es ∧ SnpR k ix a d
instance (k f t tm ix lt cm rd : Int) (ok : Bool) (es : List Ent) (a : Int) (d : ByteArray) (dn : Bool) : Decidable (OkR k f t tm ix lt cm rd ok es a d dn) := by unfold OkR; exact inferInstance
theorem mapIV {xs : List Int} {k : Nat} (h : k < xs.length) : (xs.map iV).toArray[k]? = some (iV xs[k]) := by simp [h]
set_option maxRecDepth 100000 in
set_option maxHeartbeats 400000 in
theorem within_l (lo hi : Int) (g m c : Nat) (xs : List Int) (w : World) (hm : m = xs.length) (hb : Blk w g 3 (xs.map iV).toArray) (hl : xs.length ≤ 1000) :
    Rt Tryd.prog 26 [.int .i64 lo, .int .i64 hi, .slice (some ⟨g, 0, none⟩) m c] w (fun v w' => v = .bool (decide (allIn lo hi xs)) ∧ w = w') := by
  refine enter (n := 24) Tryd.func26 rfl rfl rfl ?_
  refine cd_seq ?_
  refine cd_region ?_
  refine st_val (ro_assign (v := .bool _) rfl) ?_
  refine st_nil ?_
  refine nx_then ?_
  refine cd_seq ?_
  refine cd_seq ?_
  refine cd_region ?_
  refine st_val (ro_move (v := .slice _ _ _) rfl) ?_
  refine st_val (ro_len RpcChk_l64 rfl) ?_
  refine st_val (ro_move (v := .int _ _) rfl) ?_
  refine st_nil ?_
  refine nx_then ?_
  refine cd_block ?_
  refine cd_loop (G := Nat) [6, 8, 12, 13, 14, 15, 16, 17, 18, 19, 20, 21, 22, 23] (fun k => [(11, .int .i64 (k : Nat))]) (fun k w' => k ≤ xs.length ∧ allIn lo hi (xs.take k) ∧ w = w') (fun k => xs.length - k) (0) ⟨rfl, trivial⟩ ?_ ?_
  · exact ⟨Nat.zero_le _, allIn_nil.2 trivial, rfl⟩
  rintro k ρ1 w1 ⟨hk, ha, rfl⟩
  refine cd_seq ?_
  refine cd_region ?_
  refine st_val (ro_lss rfl rfl) ?_
  refine st_nil ?_
  refine nx_then ?_
  refine cd_seq ?_
  refine cd_cond rfl (fun Q2 => ?_) (fun Q2 => ?_)
  · (try first | replace Q2 := bn_t Q2 | replace Q2 := bn_f Q2)
    (try first | replace Q2 := bx_t Q2 | replace Q2 := bx_f Q2 | replace Q2 := be_t Q2 | replace Q2 := be_f Q2 | replace Q2 := of_decide_eq_true Q2 | replace Q2 := of_decide_eq_false Q2)
    have hkx : k < xs.length := by omega
    refine cd_skip ?_
    refine nx_then ?_
    refine cd_seq ?_
    refine cd_block ?_
    refine cd_seq ?_
    refine cd_region ?_
    refine st_val (ro_indexAddr0 RpcChk_e64 rfl rfl (by omega)) ?_
    refine st_val (ro_load RpcChk_g3 rfl (by exact hb.rd k (mapIV hkx))) ?_
    refine st_val (ro_assign (v := .int _ _) rfl) ?_
    refine st_nil ?_
    refine nx_then ?_
    refine cd_seq ?_
    refine cd_region ?_
    refine st_val (ro_move (v := .int _ _) rfl) ?_
    refine st_val (ro_move (v := .int _ _) rfl) ?_
    refine st_val (ro_lss rfl rfl) ?_
    refine st_val (ro_move (v := .bool _) rfl) ?_
    refine st_split (t := 18) rfl (fun Q3 => ?_) (fun Q3 => ?_)
    · (try first | replace Q3 := bn_t Q3 | replace Q3 := bn_f Q3)
      (try first | replace Q3 := bx_t Q3 | replace Q3 := bx_f Q3 | replace Q3 := be_t Q3 | replace Q3 := be_f Q3 | replace Q3 := of_decide_eq_true Q3 | replace Q3 := of_decide_eq_false Q3)
      refine st_gno rfl rfl ?_
      refine st_gno rfl rfl ?_
      refine st_gno rfl rfl ?_
      refine st_val (ro_pickT (v := .bool _) rfl rfl) ?_
      refine st_nil ?_
      refine nx_then ?_
      refine cd_condT rfl ?_
      refine cd_seq ?_
      refine cd_region ?_
      refine st_val (ro_assign (v := .bool _) rfl) ?_
      refine st_nil ?_
      refine nx_then ?_
      refine cd_ret ?_
      refine rt_block ?_
      refine rt_then ?_
      refine rt_then ?_
      refine rt_block ?_
      refine rt_then ?_
      refine res1 (v := .bool _) rfl rfl ?_
      refine ⟨congrArg Value.bool ?_, rfl⟩
      rw [eq_comm, decide_eq_false_iff_not]
      intro h
      have := h _ (List.getElem_mem hkx)
      omega
    · (try first | replace Q3 := bn_t Q3 | replace Q3 := bn_f Q3)
      (try first | replace Q3 := bx_t Q3 | replace Q3 := bx_f Q3 | replace Q3 := be_t Q3 | replace Q3 := be_f Q3 | replace Q3 := of_decide_eq_true Q3 | replace Q3 := of_decide_eq_false Q3)
      refine st_unguard rfl ?_
      refine st_val (ro_move (v := .int _ _) rfl) ?_
      refine st_unguard rfl ?_
      refine st_val (ro_move (v := .int _ _) rfl) ?_
      refine st_unguard rfl ?_
      refine st_val (ro_gtr rfl rfl) ?_
      refine st_val (ro_pickF (v := .bool _) rfl rfl) ?_
      refine st_nil ?_
      refine nx_then ?_
      refine cd_cond rfl (fun Q4 => ?_) (fun Q4 => ?_)
      · (try first | replace Q4 := bn_t Q4 | replace Q4 := bn_f Q4)
        (try first | replace Q4 := bx_t Q4 | replace Q4 := bx_f Q4 | replace Q4 := be_t Q4 | replace Q4 := be_f Q4 | replace Q4 := of_decide_eq_true Q4 | replace Q4 := of_decide_eq_false Q4)
        refine cd_seq ?_
        refine cd_region ?_
        refine st_val (ro_assign (v := .bool _) rfl) ?_
        refine st_nil ?_
        refine nx_then ?_
        refine cd_ret ?_
        refine rt_block ?_
        refine rt_then ?_
        refine rt_then ?_
        refine rt_block ?_
        refine rt_then ?_
        refine res1 (v := .bool _) rfl rfl ?_
        refine ⟨congrArg Value.bool ?_, rfl⟩
        rw [eq_comm, decide_eq_false_iff_not]
        intro h
        have := h _ (List.getElem_mem hkx)
        omega
      · (try first | replace Q4 := bn_t Q4 | replace Q4 := bn_f Q4)
        (try first | replace Q4 := bx_t Q4 | replace Q4 := bx_f Q4 | replace Q4 := be_t Q4 | replace Q4 := be_f Q4 | replace Q4 := of_decide_eq_true Q4 | replace Q4 := of_decide_eq_false Q4)
        refine cd_skip ?_
        refine nx_block ?_
        refine nx_then ?_
        refine cd_region ?_
        refine st_val (ro_addN (b := 1) rfl rfl (by omega)) ?_
        refine st_val (ro_move (v := .int _ _) rfl) ?_
        refine st_nil ?_
        refine nx_cut (k + 1) ⟨(by first | rfl | (refine int_eq ?_; omega)), trivial⟩ (by (iterate 30 refine agr_cons rfl ?_); exact agr_rfl) ⟨?_, ?_⟩
        · exact ⟨by omega, by rw [List.take_succ_eq_append_getElem hkx]; exact allIn_snoc.2 ⟨ha, by omega⟩, rfl⟩
        · omega
  · (try first | replace Q2 := bn_t Q2 | replace Q2 := bn_f Q2)
    (try first | replace Q2 := bx_t Q2 | replace Q2 := bx_f Q2 | replace Q2 := be_t Q2 | replace Q2 := be_f Q2 | replace Q2 := of_decide_eq_true Q2 | replace Q2 := of_decide_eq_false Q2)
    obtain rfl : k = xs.length := by omega
    rw [List.take_length] at ha
    refine cd_exit ?_
    refine ex_then ?_
    refine ex_then ?_
    refine ex_block ?_
    refine nx_then ?_
    refine cd_seq ?_
    refine cd_region ?_
    refine st_val (ro_assign (v := .bool _) rfl) ?_
    refine st_nil ?_
    refine nx_then ?_
    refine cd_ret ?_
    refine res1 (v := .bool _) rfl rfl ?_
    exact ⟨congrArg Value.bool (decide_eq_true ha).symm, rfl⟩
set_option maxRecDepth 100000 in
set_option maxHeartbeats 400000 in
theorem empty_r (k f t tm ix lt cm rd : Int) (ok : Bool) (E : Option Addr) (n c : Nat) (a : Int) (d : ByteArray) (dn : Bool) (w : World) :
    Rt Tryd.prog 27 [.agg #[.int .i64 k, .int .i64 f, .int .i64 t, .int .i64 tm, .int .i64 ix, .int .i64 lt, .int .i64 cm, .int .i64 rd, .bool ok, .slice E n c, .int .i64 a, .string d, .bool dn]] w (fun v w' => v = .bool (decide (ix = 0 ∧ lt = 0 ∧ cm = 0 ∧ rd = 0 ∧ a = 0 ∧ ok.toNat = 0 ∧ dn.toNat = 0 ∧ d.size = 0 ∧ n = 0)) ∧ From w w') := by
  refine enter (n := 36) Tryd.func27 rfl rfl rfl ?_
  refine cd_seq ?_
  refine cd_region ?_
  refine st_box (v := .agg _) rfl ?_
  intro b1 w1 E1 hb1 hk1
  refine st_val (ro_assign (v := .bool _) rfl) ?_
  refine st_nil ?_
  refine nx_then ?_
  refine cd_seq ?_
  refine cd_region ?_
  refine st_val (ro_fieldAddr RpcChk_f27_4 rfl) ?_
  refine st_val (ro_load RpcChk_g3 rfl (by exact (hk1.from_ From.rfl_).rd 4 rfl)) ?_
  refine st_val (ro_fieldAddr RpcChk_f27_5 rfl) ?_
  refine st_val (ro_load RpcChk_g3 rfl (by exact (hk1.from_ From.rfl_).rd 5 rfl)) ?_
  refine st_val (ro_fieldAddr RpcChk_f27_6 rfl) ?_
  refine st_val (ro_load RpcChk_g3 rfl (by exact (hk1.from_ From.rfl_).rd 6 rfl)) ?_
  refine st_val (ro_fieldAddr RpcChk_f27_7 rfl) ?_
  refine st_val (ro_load RpcChk_g3 rfl (by exact (hk1.from_ From.rfl_).rd 7 rfl)) ?_
  refine st_val (ro_fieldAddr RpcChk_f27_10 rfl) ?_
  refine st_val (ro_load RpcChk_g3 rfl (by exact (hk1.from_ From.rfl_).rd 10 rfl)) ?_
  refine st_lits [.tmp 4, .tmp 6, .tmp 8, .tmp 10, .tmp 12] [.int _ _, .int _ _, .int _ _, .int _ _, .int _ _] RpcChk_q64 rfl rfl rfl rfl (by simp [Value.cells]) ?_
  intro b13 w2 E13 hb13 hk13
  refine st_call RpcChk_k26 (within_l 0 0 b13 5 5 [ix, lt, cm, rd, a] _ rfl hk13 (by simp)) ?_
  rintro v14 w3 ⟨rfl, rfl⟩
  refine st_val (ro_move (v := .bool _) rfl) ?_
  refine st_split (t := 15) rfl (fun Q4 => ?_) (fun Q4 => ?_)
  · (try first | replace Q4 := bn_t Q4 | replace Q4 := bn_f Q4)
    (try first | replace Q4 := bx_t Q4 | replace Q4 := bx_f Q4 | replace Q4 := be_t Q4 | replace Q4 := be_f Q4 | replace Q4 := of_decide_eq_true Q4 | replace Q4 := of_decide_eq_false Q4)
    simp only [allIn_cons, allIn_nil, and_true] at Q4
    first
     | (exfalso; first | omega | contradiction | (cases Q4; done))
     | skip
       refine st_unguard rfl ?_
       refine st_val (ro_fieldAddr RpcChk_f27_8 rfl) ?_
       refine st_unguard rfl ?_
       refine st_val (ro_load RpcChk_g4 rfl (by exact (hk1.from_ (From.rfl_.next E13)).rd 8 rfl)) ?_
       refine st_unguard rfl ?_
       refine st_val (ro_not rfl) ?_
       refine st_val (ro_pickT (v := .bool _) rfl rfl) ?_
       refine st_val (ro_move (v := .bool _) rfl) ?_
       refine st_split (t := 20) rfl (fun Q5 => ?_) (fun Q5 => ?_)
       · (try first | replace Q5 := bn_t Q5 | replace Q5 := bn_f Q5)
         (try first | replace Q5 := bx_t Q5 | replace Q5 := bx_f Q5 | replace Q5 := be_t Q5 | replace Q5 := be_f Q5 | replace Q5 := of_decide_eq_true Q5 | replace Q5 := of_decide_eq_false Q5)
         have ho : ok.toNat = 0 := by cases ok <;> simp_all
         first
          | (exfalso; first | omega | contradiction | (cases Q5; done))
          | skip
            refine st_unguard rfl ?_
            refine st_val (ro_fieldAddr RpcChk_f27_12 rfl) ?_
            refine st_unguard rfl ?_
            refine st_val (ro_load RpcChk_g4 rfl (by exact (hk1.from_ (From.rfl_.next E13)).rd 12 rfl)) ?_
            refine st_unguard rfl ?_
            refine st_val (ro_not rfl) ?_
            refine st_val (ro_pickT (v := .bool _) rfl rfl) ?_
            refine st_val (ro_move (v := .bool _) rfl) ?_
            refine st_split (t := 25) rfl (fun Q6 => ?_) (fun Q6 => ?_)
            · (try first | replace Q6 := bn_t Q6 | replace Q6 := bn_f Q6)
              (try first | replace Q6 := bx_t Q6 | replace Q6 := bx_f Q6 | replace Q6 := be_t Q6 | replace Q6 := be_f Q6 | replace Q6 := of_decide_eq_true Q6 | replace Q6 := of_decide_eq_false Q6)
              have hd : dn.toNat = 0 := by cases dn <;> simp_all
              first
               | (exfalso; first | omega | contradiction | (cases Q6; done))
               | skip
                 refine st_unguard rfl ?_
                 refine st_val (ro_fieldAddr RpcChk_f27_11 rfl) ?_
                 refine st_unguard rfl ?_
                 refine st_val (ro_load RpcChk_g9 rfl (by exact (hk1.from_ (From.rfl_.next E13)).rd 11 rfl)) ?_
                 refine st_unguard rfl ?_
                 refine st_val (ro_eq (ro_eqlS rfl rfl) (congrArg Value.bool (beq0 d))) ?_
                 refine st_val (ro_pickT (v := .bool _) rfl rfl) ?_
                 refine st_val (ro_move (v := .bool _) rfl) ?_
                 refine st_split (t := 30) rfl (fun Q7 => ?_) (fun Q7 => ?_)
                 · (try first | replace Q7 := bn_t Q7 | replace Q7 := bn_f Q7)
                   (try first | replace Q7 := bx_t Q7 | replace Q7 := bx_f Q7 | replace Q7 := be_t Q7 | replace Q7 := be_f Q7 | replace Q7 := of_decide_eq_true Q7 | replace Q7 := of_decide_eq_false Q7)
                   first
                    | (exfalso; first | omega | contradiction | (cases Q7; done))
                    | skip
                      refine st_unguard rfl ?_
                      refine st_val (ro_fieldAddr RpcChk_f27_9 rfl) ?_
                      refine st_unguard rfl ?_
                      refine st_val (ro_load RpcChk_g25 rfl (by exact (hk1.from_ (From.rfl_.next E13)).rd 9 rfl)) ?_
                      refine st_unguard rfl ?_
                      refine st_val (ro_len RpcChk_l25 rfl) ?_
                      refine st_unguard rfl ?_
                      refine st_val (ro_eq (ro_eql rfl rfl) (congrArg Value.bool (show (((n : Nat) : Int) == 0) = decide (n = 0) by rw [Bool.eq_iff_iff, beq_iff_eq, decide_eq_true_eq]; omega))) ?_
                      refine st_val (ro_pickT (v := .bool _) rfl rfl) ?_
                      refine st_val (ro_assign (v := .bool _) rfl) ?_
                      refine st_nil ?_
                      refine nx_then ?_
                      refine cd_ret ?_
                      refine res1 (v := .bool _) rfl rfl ?_
                      refine ⟨congrArg Value.bool ?_, ((From.rfl_.next E1).next E13)⟩
                      first
                        | (rw [eq_comm, decide_eq_false_iff_not]; omega)
                        | (rw [decide_eq_decide]; omega)
                        | (rw [eq_comm, decide_eq_true_eq]; omega)
                 · (try first | replace Q7 := bn_t Q7 | replace Q7 := bn_f Q7)
                   (try first | replace Q7 := bx_t Q7 | replace Q7 := bx_f Q7 | replace Q7 := be_t Q7 | replace Q7 := be_f Q7 | replace Q7 := of_decide_eq_true Q7 | replace Q7 := of_decide_eq_false Q7)
                   first
                    | (exfalso; first | omega | contradiction | (cases Q7; done))
                    | skip
                      refine st_gno rfl rfl ?_
                      refine st_gno rfl rfl ?_
                      refine st_gno rfl rfl ?_
                      refine st_gno rfl rfl ?_
                      refine st_val (ro_pickF (v := .bool _) rfl rfl) ?_
                      refine st_val (ro_assign (v := .bool _) rfl) ?_
                      refine st_nil ?_
                      refine nx_then ?_
                      refine cd_ret ?_
                      refine res1 (v := .bool _) rfl rfl ?_
                      refine ⟨congrArg Value.bool ?_, ((From.rfl_.next E1).next E13)⟩
                      first
                        | (rw [eq_comm, decide_eq_false_iff_not]; omega)
                        | (rw [decide_eq_decide]; omega)
                        | (rw [eq_comm, decide_eq_true_eq]; omega)
            · (try first | replace Q6 := bn_t Q6 | replace Q6 := bn_f Q6)
              (try first | replace Q6 := bx_t Q6 | replace Q6 := bx_f Q6 | replace Q6 := be_t Q6 | replace Q6 := be_f Q6 | replace Q6 := of_decide_eq_true Q6 | replace Q6 := of_decide_eq_false Q6)
              have hd : dn.toNat = 1 := by cases dn <;> simp_all
              first
               | (exfalso; first | omega | contradiction | (cases Q6; done))
               | skip
                 refine st_gno rfl rfl ?_
                 refine st_gno rfl rfl ?_
                 refine st_gno rfl rfl ?_
                 refine st_val (ro_pickF (v := .bool _) rfl rfl) ?_
                 refine st_val (ro_move (v := .bool _) rfl) ?_
                 refine st_gno rfl rfl ?_
                 refine st_gno rfl rfl ?_
                 refine st_gno rfl rfl ?_
                 refine st_gno rfl rfl ?_
                 refine st_val (ro_pickF (v := .bool _) rfl rfl) ?_
                 refine st_val (ro_assign (v := .bool _) rfl) ?_
                 refine st_nil ?_
                 refine nx_then ?_
                 refine cd_ret ?_
                 refine res1 (v := .bool _) rfl rfl ?_
                 refine ⟨congrArg Value.bool ?_, ((From.rfl_.next E1).next E13)⟩
                 first
                   | (rw [eq_comm, decide_eq_false_iff_not]; omega)
                   | (rw [decide_eq_decide]; omega)
                   | (rw [eq_comm, decide_eq_true_eq]; omega)
       · (try first | replace Q5 := bn_t Q5 | replace Q5 := bn_f Q5)
         (try first | replace Q5 := bx_t Q5 | replace Q5 := bx_f Q5 | replace Q5 := be_t Q5 | replace Q5 := be_f Q5 | replace Q5 := of_decide_eq_true Q5 | replace Q5 := of_decide_eq_false Q5)
         have ho : ok.toNat = 1 := by cases ok <;> simp_all
         first
          | (exfalso; first | omega | contradiction | (cases Q5; done))
          | skip
            refine st_gno rfl rfl ?_
            refine st_gno rfl rfl ?_
            refine st_gno rfl rfl ?_
            refine st_val (ro_pickF (v := .bool _) rfl rfl) ?_
            refine st_val (ro_move (v := .bool _) rfl) ?_
            refine st_gno rfl rfl ?_
            refine st_gno rfl rfl ?_
            refine st_gno rfl rfl ?_
            refine st_val (ro_pickF (v := .bool _) rfl rfl) ?_
            refine st_val (ro_move (v := .bool _) rfl) ?_
            refine st_gno rfl rfl ?_
            refine st_gno rfl rfl ?_
            refine st_gno rfl rfl ?_
            refine st_gno rfl rfl ?_
            refine st_val (ro_pickF (v := .bool _) rfl rfl) ?_
            refine st_val (ro_assign (v := .bool _) rfl) ?_
            refine st_nil ?_
            refine nx_then ?_
            refine cd_ret ?_
            refine res1 (v := .bool _) rfl rfl ?_
            refine ⟨congrArg Value.bool ?_, ((From.rfl_.next E1).next E13)⟩
            first
              | (rw [eq_comm, decide_eq_false_iff_not]; omega)
              | (rw [decide_eq_decide]; omega)
              | (rw [eq_comm, decide_eq_true_eq]; omega)
  · (try first | replace Q4 := bn_t Q4 | replace Q4 := bn_f Q4)
    (try first | replace Q4 := bx_t Q4 | replace Q4 := bx_f Q4 | replace Q4 := be_t Q4 | replace Q4 := be_f Q4 | replace Q4 := of_decide_eq_true Q4 | replace Q4 := of_decide_eq_false Q4)
    simp only [allIn_cons, allIn_nil, and_true] at Q4
    first
     | (exfalso; first | omega | contradiction | (cases Q4; done))
     | skip
       refine st_gno rfl rfl ?_
       refine st_gno rfl rfl ?_
       refine st_gno rfl rfl ?_
       refine st_val (ro_pickF (v := .bool _) rfl rfl) ?_
       refine st_val (ro_move (v := .bool _) rfl) ?_
       refine st_gno rfl rfl ?_
       refine st_gno rfl rfl ?_
       refine st_gno rfl rfl ?_
       refine st_val (ro_pickF (v := .bool _) rfl rfl) ?_
       refine st_val (ro_move (v := .bool _) rfl) ?_
       refine st_gno rfl rfl ?_
       refine st_gno rfl rfl ?_
       refine st_gno rfl rfl ?_
       refine st_val (ro_pickF (v := .bool _) rfl rfl) ?_
       refine st_val (ro_move (v := .bool _) rfl) ?_
       refine st_gno rfl rfl ?_
       refine st_gno rfl rfl ?_
       refine st_gno rfl rfl ?_
       refine st_gno rfl rfl ?_
       refine st_val (ro_pickF (v := .bool _) rfl rfl) ?_
       refine st_val (ro_assign (v := .bool _) rfl) ?_
       refine st_nil ?_
       refine nx_then ?_
       refine cd_ret ?_
       refine res1 (v := .bool _) rfl rfl ?_
       refine ⟨congrArg Value.bool ?_, ((From.rfl_.next E1).next E13)⟩
       first
         | (rw [eq_comm, decide_eq_false_iff_not]; omega)
         | (rw [decide_eq_decide]; omega)
         | (rw [eq_comm, decide_eq_true_eq]; omega)
set_option maxRecDepth 100000 in
set_option maxHeartbeats 2000000 in
theorem without_r (k f t tm ix lt cm rd : Int) (ok : Bool) (E : Option Addr) (n c : Nat) (a : Int) (d : ByteArray) (dn : Bool) (w : World) :
    Rt Tryd.prog 28 [.agg #[.int .i64 k, .int .i64 f, .int .i64 t, .int .i64 tm, .int .i64 ix, .int .i64 lt, .int .i64 cm, .int .i64 rd, .bool ok, .slice E n c, .int .i64 a, .string d, .bool dn]] w (fun v w' => (∃ ix' lt' cm' rd' ok' E' n' c' a' d' dn', v = .agg #[.int .i64 k, .int .i64 f, .int .i64 t, .int .i64 tm, .int .i64 ix', .int .i64 lt', .int .i64 cm', .int .i64 rd', .bool ok', .slice E' n' c', .int .i64 a', .string d', .bool dn'] ∧ ((ix' = 0 ∧ lt' = 0 ∧ cm' = 0 ∧ rd' = 0 ∧ a' = 0 ∧ ok'.toNat = 0 ∧ dn'.toNat = 0 ∧ d'.size = 0 ∧ n' = 0) ↔ ExR k ix lt cm rd ok n a d dn)) ∧ From w w') := by
  refine enter (n := 38) Tryd.func28 rfl rfl rfl ?_
  refine cd_seq ?_
  refine cd_region ?_
  refine st_box (v := .agg _) rfl ?_
  intro b1 w1 E1 hb1 hk1
  have hg1 : w.heap.size ≤ b1 := by rw [hb1]; exact Nat.le_refl _
  refine st_alloc RpcChk_o27 ?_
  intro b2 w2 E2 hb2 hk2
  have hlt := hk1.lt
  have hg2 : w.heap.size ≤ b2 := by rw [hb2]; exact ((From.rfl_.next E1)).size
  have h12 : b1 < b2 := by omega
  replace hk1 := hk1.from_ E2
  refine st_nil ?_
  refine nx_then ?_
  refine cd_seq ?_
  refine cd_seq ?_
  refine cd_region ?_
  refine st_val (ro_fieldAddr RpcChk_f27_0 rfl) ?_
  refine st_val (ro_load RpcChk_g3 rfl (by exact hk1.rd 0 rfl)) ?_
  refine st_nil ?_
  refine nx_then ?_
  refine cd_block ?_
  refine cd_seq ?_
  refine cd_region ?_
  refine st_val (ro_eql rfl rfl) ?_
  refine st_val (ro_assign (v := .bool _) rfl) ?_
  refine st_nil ?_
  refine nx_then ?_
  refine cd_cond rfl (fun Q3 => ?_) (fun Q3 => ?_)
  · (try first | replace Q3 := bn_t Q3 | replace Q3 := bn_f Q3)
    (try first | replace Q3 := bx_t Q3 | replace Q3 := bx_f Q3 | replace Q3 := be_t Q3 | replace Q3 := be_f Q3 | replace Q3 := of_decide_eq_true Q3 | replace Q3 := of_decide_eq_false Q3)
    first
     | (exfalso; first | omega | contradiction | (cases Q3; done))
     | skip
       refine cd_region ?_
       refine st_val (ro_fieldAddr RpcChk_f27_4 rfl) ?_
       refine st_put (v := .int _ _) RpcChk_z3 rfl rfl rfl (hk1) (by show 0 + 4 < 13; decide) ?_
       intro w4 O3_0 P3_0
       replace hk2 := hk2.only O3_0 (by omega)
       replace hk1 : Blk w4 b1 27 #[.int .i64 k, .int .i64 f, .int .i64 t, .int .i64 tm, .int .i64 0, .int .i64 lt, .int .i64 cm, .int .i64 rd, .bool ok, .slice E n c, .int .i64 a, .string d, .bool dn] := P3_0
       refine st_val (ro_fieldAddr RpcChk_f27_5 rfl) ?_
       refine st_put (v := .int _ _) RpcChk_z3 rfl rfl rfl (hk1) (by show 0 + 5 < 13; decide) ?_
       intro w5 O3_1 P3_1
       replace hk2 := hk2.only O3_1 (by omega)
       replace hk1 : Blk w5 b1 27 #[.int .i64 k, .int .i64 f, .int .i64 t, .int .i64 tm, .int .i64 0, .int .i64 0, .int .i64 cm, .int .i64 rd, .bool ok, .slice E n c, .int .i64 a, .string d, .bool dn] := P3_1
       refine st_nil ?_
       refine nx_block ?_
       refine nx_then ?_
       refine cd_seq ?_
       refine cd_region ?_
       refine st_val (ro_loadA (cs := [_, _, _, _, _, _, _, _, _, _, _, _, _]) RpcChk_g27 RpcChk_z27 rfl (by exact hk1.whole)) ?_
       refine st_putW (vs := [_, _, _, _, _, _, _, _, _, _, _, _, _]) RpcChk_z27 rfl rfl (by simp [Value.oneCell']) (hk2) rfl ?_
       intro w6 O14 P14
       refine st_nil ?_
       refine nx_then ?_
       refine cd_ret ?_
       refine resr1 rfl (rv_cellA (cs := [_, _, _, _, _, _, _, _, _, _, _, _, _]) RpcChk_g27 RpcChk_z27 rfl (by exact P14.whole)) ?_
       refine ⟨⟨_, _, _, _, _, _, _, _, _, _, _, rfl, ?_⟩, (((((From.rfl_.next E1).next E2).only O3_0 (hg1)).only O3_1 (hg1)).only O14 (hg2))⟩
       unfold ExR
       first
         | (rw [if_pos (by omega)]; (try simp only [Bool.toNat_false, bz, true_and, and_true]); first | done | omega)
         | (rw [if_neg (by omega), if_pos (by omega)]; (try simp only [Bool.toNat_false, bz, true_and, and_true]); first | done | omega)
         | (rw [if_neg (by omega), if_neg (by omega), if_pos (by omega)]; (try simp only [Bool.toNat_false, bz, true_and, and_true]); first | done | omega)
         | (rw [if_neg (by omega), if_neg (by omega), if_neg (by omega), if_pos (by omega)]; (try simp only [Bool.toNat_false, bz, true_and, and_true]); first | done | omega)
         | (rw [if_neg (by omega), if_neg (by omega), if_neg (by omega), if_neg (by omega), if_pos (by omega)]; (try simp only [Bool.toNat_false, bz, true_and, and_true]); first | done | omega)
         | (rw [if_neg (by omega), if_neg (by omega), if_neg (by omega), if_neg (by omega), if_neg (by omega), if_pos (by omega)]; (try simp only [Bool.toNat_false, bz, true_and, and_true]); first | done | omega)
         | (rw [if_neg (by omega), if_neg (by omega), if_neg (by omega), if_neg (by omega), if_neg (by omega), if_neg (by omega)]; omega)
  · (try first | replace Q3 := bn_t Q3 | replace Q3 := bn_f Q3)
    (try first | replace Q3 := bx_t Q3 | replace Q3 := bx_f Q3 | replace Q3 := be_t Q3 | replace Q3 := be_f Q3 | replace Q3 := of_decide_eq_true Q3 | replace Q3 := of_decide_eq_false Q3)
    first
     | (exfalso; first | omega | contradiction | (cases Q3; done))
     | skip
       refine cd_seq ?_
       refine cd_region ?_
       refine st_val (ro_eql rfl rfl) ?_
       refine st_val (ro_assign (v := .bool _) rfl) ?_
       refine st_nil ?_
       refine nx_then ?_
       refine cd_cond rfl (fun Q7 => ?_) (fun Q7 => ?_)
       · (try first | replace Q7 := bn_t Q7 | replace Q7 := bn_f Q7)
         (try first | replace Q7 := bx_t Q7 | replace Q7 := bx_f Q7 | replace Q7 := be_t Q7 | replace Q7 := be_f Q7 | replace Q7 := of_decide_eq_true Q7 | replace Q7 := of_decide_eq_false Q7)
         first
          | (exfalso; first | omega | contradiction | (cases Q7; done))
          | skip
            refine cd_region ?_
            refine st_val (ro_fieldAddr RpcChk_f27_8 rfl) ?_
            refine st_put (v := .bool _) RpcChk_z4 rfl rfl rfl (hk1) (by show 0 + 8 < 13; decide) ?_
            intro w8 O5_0 P5_0
            replace hk2 := hk2.only O5_0 (by omega)
            replace hk1 : Blk w8 b1 27 #[.int .i64 k, .int .i64 f, .int .i64 t, .int .i64 tm, .int .i64 ix, .int .i64 lt, .int .i64 cm, .int .i64 rd, .bool false, .slice E n c, .int .i64 a, .string d, .bool dn] := P5_0
            refine st_nil ?_
            refine nx_block ?_
            refine nx_then ?_
            refine cd_seq ?_
            refine cd_region ?_
            refine st_val (ro_loadA (cs := [_, _, _, _, _, _, _, _, _, _, _, _, _]) RpcChk_g27 RpcChk_z27 rfl (by exact hk1.whole)) ?_
            refine st_putW (vs := [_, _, _, _, _, _, _, _, _, _, _, _, _]) RpcChk_z27 rfl rfl (by simp [Value.oneCell']) (hk2) rfl ?_
            intro w9 O14 P14
            refine st_nil ?_
            refine nx_then ?_
            refine cd_ret ?_
            refine resr1 rfl (rv_cellA (cs := [_, _, _, _, _, _, _, _, _, _, _, _, _]) RpcChk_g27 RpcChk_z27 rfl (by exact P14.whole)) ?_
            refine ⟨⟨_, _, _, _, _, _, _, _, _, _, _, rfl, ?_⟩, ((((From.rfl_.next E1).next E2).only O5_0 (hg1)).only O14 (hg2))⟩
            unfold ExR
            first
              | (rw [if_pos (by omega)]; (try simp only [Bool.toNat_false, bz, true_and, and_true]); first | done | omega)
              | (rw [if_neg (by omega), if_pos (by omega)]; (try simp only [Bool.toNat_false, bz, true_and, and_true]); first | done | omega)
              | (rw [if_neg (by omega), if_neg (by omega), if_pos (by omega)]; (try simp only [Bool.toNat_false, bz, true_and, and_true]); first | done | omega)
              | (rw [if_neg (by omega), if_neg (by omega), if_neg (by omega), if_pos (by omega)]; (try simp only [Bool.toNat_false, bz, true_and, and_true]); first | done | omega)
              | (rw [if_neg (by omega), if_neg (by omega), if_neg (by omega), if_neg (by omega), if_pos (by omega)]; (try simp only [Bool.toNat_false, bz, true_and, and_true]); first | done | omega)
              | (rw [if_neg (by omega), if_neg (by omega), if_neg (by omega), if_neg (by omega), if_neg (by omega), if_pos (by omega)]; (try simp only [Bool.toNat_false, bz, true_and, and_true]); first | done | omega)
              | (rw [if_neg (by omega), if_neg (by omega), if_neg (by omega), if_neg (by omega), if_neg (by omega), if_neg (by omega)]; omega)
       · (try first | replace Q7 := bn_t Q7 | replace Q7 := bn_f Q7)
         (try first | replace Q7 := bx_t Q7 | replace Q7 := bx_f Q7 | replace Q7 := be_t Q7 | replace Q7 := be_f Q7 | replace Q7 := of_decide_eq_true Q7 | replace Q7 := of_decide_eq_false Q7)
         first
          | (exfalso; first | omega | contradiction | (cases Q7; done))
          | skip
            refine cd_seq ?_
            refine cd_region ?_
            refine st_val (ro_eql rfl rfl) ?_
            refine st_val (ro_assign (v := .bool _) rfl) ?_
            refine st_nil ?_
            refine nx_then ?_
            refine cd_cond rfl (fun Q10 => ?_) (fun Q10 => ?_)
            · (try first | replace Q10 := bn_t Q10 | replace Q10 := bn_f Q10)
              (try first | replace Q10 := bx_t Q10 | replace Q10 := bx_f Q10 | replace Q10 := be_t Q10 | replace Q10 := be_f Q10 | replace Q10 := of_decide_eq_true Q10 | replace Q10 := of_decide_eq_false Q10)
              first
               | (exfalso; first | omega | contradiction | (cases Q10; done))
               | skip
                 refine cd_region ?_
                 refine st_val (ro_fieldAddr RpcChk_f27_4 rfl) ?_
                 refine st_put (v := .int _ _) RpcChk_z3 rfl rfl rfl (hk1) (by show 0 + 4 < 13; decide) ?_
                 intro w11 O7_0 P7_0
                 replace hk2 := hk2.only O7_0 (by omega)
                 replace hk1 : Blk w11 b1 27 #[.int .i64 k, .int .i64 f, .int .i64 t, .int .i64 tm, .int .i64 0, .int .i64 lt, .int .i64 cm, .int .i64 rd, .bool ok, .slice E n c, .int .i64 a, .string d, .bool dn] := P7_0
                 refine st_val (ro_fieldAddr RpcChk_f27_5 rfl) ?_
                 refine st_put (v := .int _ _) RpcChk_z3 rfl rfl rfl (hk1) (by show 0 + 5 < 13; decide) ?_
                 intro w12 O7_1 P7_1
                 replace hk2 := hk2.only O7_1 (by omega)
                 replace hk1 : Blk w12 b1 27 #[.int .i64 k, .int .i64 f, .int .i64 t, .int .i64 tm, .int .i64 0, .int .i64 0, .int .i64 cm, .int .i64 rd, .bool ok, .slice E n c, .int .i64 a, .string d, .bool dn] := P7_1
                 refine st_val (ro_fieldAddr RpcChk_f27_6 rfl) ?_
                 refine st_put (v := .int _ _) RpcChk_z3 rfl rfl rfl (hk1) (by show 0 + 6 < 13; decide) ?_
                 intro w13 O7_2 P7_2
                 replace hk2 := hk2.only O7_2 (by omega)
                 replace hk1 : Blk w13 b1 27 #[.int .i64 k, .int .i64 f, .int .i64 t, .int .i64 tm, .int .i64 0, .int .i64 0, .int .i64 0, .int .i64 rd, .bool ok, .slice E n c, .int .i64 a, .string d, .bool dn] := P7_2
                 refine st_val (ro_fieldAddr RpcChk_f27_7 rfl) ?_
                 refine st_put (v := .int _ _) RpcChk_z3 rfl rfl rfl (hk1) (by show 0 + 7 < 13; decide) ?_
                 intro w14 O7_3 P7_3
                 replace hk2 := hk2.only O7_3 (by omega)
                 replace hk1 : Blk w14 b1 27 #[.int .i64 k, .int .i64 f, .int .i64 t, .int .i64 tm, .int .i64 0, .int .i64 0, .int .i64 0, .int .i64 0, .bool ok, .slice E n c, .int .i64 a, .string d, .bool dn] := P7_3
                 refine st_val (ro_fieldAddr RpcChk_f27_9 rfl) ?_
                 refine st_put (v := .slice _ _ _) RpcChk_z25 rfl rfl rfl (hk1) (by show 0 + 9 < 13; decide) ?_
                 intro w15 O7_4 P7_4
                 replace hk2 := hk2.only O7_4 (by omega)
                 replace hk1 : Blk w15 b1 27 #[.int .i64 k, .int .i64 f, .int .i64 t, .int .i64 tm, .int .i64 0, .int .i64 0, .int .i64 0, .int .i64 0, .bool ok, .slice none 0 0, .int .i64 a, .string d, .bool dn] := P7_4
                 refine st_nil ?_
                 refine nx_block ?_
                 refine nx_then ?_
                 refine cd_seq ?_
                 refine cd_region ?_
                 refine st_val (ro_loadA (cs := [_, _, _, _, _, _, _, _, _, _, _, _, _]) RpcChk_g27 RpcChk_z27 rfl (by exact hk1.whole)) ?_
                 refine st_putW (vs := [_, _, _, _, _, _, _, _, _, _, _, _, _]) RpcChk_z27 rfl rfl (by simp [Value.oneCell']) (hk2) rfl ?_
                 intro w16 O14 P14
                 refine st_nil ?_
                 refine nx_then ?_
                 refine cd_ret ?_
                 refine resr1 rfl (rv_cellA (cs := [_, _, _, _, _, _, _, _, _, _, _, _, _]) RpcChk_g27 RpcChk_z27 rfl (by exact P14.whole)) ?_
                 refine ⟨⟨_, _, _, _, _, _, _, _, _, _, _, rfl, ?_⟩, ((((((((From.rfl_.next E1).next E2).only O7_0 (hg1)).only O7_1 (hg1)).only O7_2 (hg1)).only O7_3 (hg1)).only O7_4 (hg1)).only O14 (hg2))⟩
                 unfold ExR
                 first
                   | (rw [if_pos (by omega)]; (try simp only [Bool.toNat_false, bz, true_and, and_true]); first | done | omega)
                   | (rw [if_neg (by omega), if_pos (by omega)]; (try simp only [Bool.toNat_false, bz, true_and, and_true]); first | done | omega)
                   | (rw [if_neg (by omega), if_neg (by omega), if_pos (by omega)]; (try simp only [Bool.toNat_false, bz, true_and, and_true]); first | done | omega)
                   | (rw [if_neg (by omega), if_neg (by omega), if_neg (by omega), if_pos (by omega)]; (try simp only [Bool.toNat_false, bz, true_and, and_true]); first | done | omega)
                   | (rw [if_neg (by omega), if_neg (by omega), if_neg (by omega), if_neg (by omega), if_pos (by omega)]; (try simp only [Bool.toNat_false, bz, true_and, and_true]); first | done | omega)
                   | (rw [if_neg (by omega), if_neg (by omega), if_neg (by omega), if_neg (by omega), if_neg (by omega), if_pos (by omega)]; (try simp only [Bool.toNat_false, bz, true_and, and_true]); first | done | omega)
                   | (rw [if_neg (by omega), if_neg (by omega), if_neg (by omega), if_neg (by omega), if_neg (by omega), if_neg (by omega)]; omega)
            · (try first | replace Q10 := bn_t Q10 | replace Q10 := bn_f Q10)
              (try first | replace Q10 := bx_t Q10 | replace Q10 := bx_f Q10 | replace Q10 := be_t Q10 | replace Q10 := be_f Q10 | replace Q10 := of_decide_eq_true Q10 | replace Q10 := of_decide_eq_false Q10)
              first
               | (exfalso; first | omega | contradiction | (cases Q10; done))
               | skip
                 refine cd_seq ?_
                 refine cd_region ?_
                 refine st_val (ro_eql rfl rfl) ?_
                 refine st_val (ro_assign (v := .bool _) rfl) ?_
                 refine st_nil ?_
                 refine nx_then ?_
                 refine cd_cond rfl (fun Q17 => ?_) (fun Q17 => ?_)
                 · (try first | replace Q17 := bn_t Q17 | replace Q17 := bn_f Q17)
                   (try first | replace Q17 := bx_t Q17 | replace Q17 := bx_f Q17 | replace Q17 := be_t Q17 | replace Q17 := be_f Q17 | replace Q17 := of_decide_eq_true Q17 | replace Q17 := of_decide_eq_false Q17)
                   first
                    | (exfalso; first | omega | contradiction | (cases Q17; done))
                    | skip
                      refine cd_region ?_
                      refine st_val (ro_fieldAddr RpcChk_f27_8 rfl) ?_
                      refine st_put (v := .bool _) RpcChk_z4 rfl rfl rfl (hk1) (by show 0 + 8 < 13; decide) ?_
                      intro w18 O9_0 P9_0
                      replace hk2 := hk2.only O9_0 (by omega)
                      replace hk1 : Blk w18 b1 27 #[.int .i64 k, .int .i64 f, .int .i64 t, .int .i64 tm, .int .i64 ix, .int .i64 lt, .int .i64 cm, .int .i64 rd, .bool false, .slice E n c, .int .i64 a, .string d, .bool dn] := P9_0
                      refine st_val (ro_fieldAddr RpcChk_f27_4 rfl) ?_
                      refine st_put (v := .int _ _) RpcChk_z3 rfl rfl rfl (hk1) (by show 0 + 4 < 13; decide) ?_
                      intro w19 O9_1 P9_1
                      replace hk2 := hk2.only O9_1 (by omega)
                      replace hk1 : Blk w19 b1 27 #[.int .i64 k, .int .i64 f, .int .i64 t, .int .i64 tm, .int .i64 0, .int .i64 lt, .int .i64 cm, .int .i64 rd, .bool false, .slice E n c, .int .i64 a, .string d, .bool dn] := P9_1
                      refine st_val (ro_fieldAddr RpcChk_f27_7 rfl) ?_
                      refine st_put (v := .int _ _) RpcChk_z3 rfl rfl rfl (hk1) (by show 0 + 7 < 13; decide) ?_
                      intro w20 O9_2 P9_2
                      replace hk2 := hk2.only O9_2 (by omega)
                      replace hk1 : Blk w20 b1 27 #[.int .i64 k, .int .i64 f, .int .i64 t, .int .i64 tm, .int .i64 0, .int .i64 lt, .int .i64 cm, .int .i64 0, .bool false, .slice E n c, .int .i64 a, .string d, .bool dn] := P9_2
                      refine st_nil ?_
                      refine nx_block ?_
                      refine nx_then ?_
                      refine cd_seq ?_
                      refine cd_region ?_
                      refine st_val (ro_loadA (cs := [_, _, _, _, _, _, _, _, _, _, _, _, _]) RpcChk_g27 RpcChk_z27 rfl (by exact hk1.whole)) ?_
                      refine st_putW (vs := [_, _, _, _, _, _, _, _, _, _, _, _, _]) RpcChk_z27 rfl rfl (by simp [Value.oneCell']) (hk2) rfl ?_
                      intro w21 O14 P14
                      refine st_nil ?_
                      refine nx_then ?_
                      refine cd_ret ?_
                      refine resr1 rfl (rv_cellA (cs := [_, _, _, _, _, _, _, _, _, _, _, _, _]) RpcChk_g27 RpcChk_z27 rfl (by exact P14.whole)) ?_
                      refine ⟨⟨_, _, _, _, _, _, _, _, _, _, _, rfl, ?_⟩, ((((((From.rfl_.next E1).next E2).only O9_0 (hg1)).only O9_1 (hg1)).only O9_2 (hg1)).only O14 (hg2))⟩
                      unfold ExR
                      first
                        | (rw [if_pos (by omega)]; (try simp only [Bool.toNat_false, bz, true_and, and_true]); first | done | omega)
                        | (rw [if_neg (by omega), if_pos (by omega)]; (try simp only [Bool.toNat_false, bz, true_and, and_true]); first | done | omega)
                        | (rw [if_neg (by omega), if_neg (by omega), if_pos (by omega)]; (try simp only [Bool.toNat_false, bz, true_and, and_true]); first | done | omega)
                        | (rw [if_neg (by omega), if_neg (by omega), if_neg (by omega), if_pos (by omega)]; (try simp only [Bool.toNat_false, bz, true_and, and_true]); first | done | omega)
                        | (rw [if_neg (by omega), if_neg (by omega), if_neg (by omega), if_neg (by omega), if_pos (by omega)]; (try simp only [Bool.toNat_false, bz, true_and, and_true]); first | done | omega)
                        | (rw [if_neg (by omega), if_neg (by omega), if_neg (by omega), if_neg (by omega), if_neg (by omega), if_pos (by omega)]; (try simp only [Bool.toNat_false, bz, true_and, and_true]); first | done | omega)
                        | (rw [if_neg (by omega), if_neg (by omega), if_neg (by omega), if_neg (by omega), if_neg (by omega), if_neg (by omega)]; omega)
                 · (try first | replace Q17 := bn_t Q17 | replace Q17 := bn_f Q17)
                   (try first | replace Q17 := bx_t Q17 | replace Q17 := bx_f Q17 | replace Q17 := be_t Q17 | replace Q17 := be_f Q17 | replace Q17 := of_decide_eq_true Q17 | replace Q17 := of_decide_eq_false Q17)
                   first
                    | (exfalso; first | omega | contradiction | (cases Q17; done))
                    | skip
                      refine cd_seq ?_
                      refine cd_region ?_
                      refine st_val (ro_eql rfl rfl) ?_
                      refine st_val (ro_assign (v := .bool _) rfl) ?_
                      refine st_nil ?_
                      refine nx_then ?_
                      refine cd_cond rfl (fun Q22 => ?_) (fun Q22 => ?_)
                      · (try first | replace Q22 := bn_t Q22 | replace Q22 := bn_f Q22)
                        (try first | replace Q22 := bx_t Q22 | replace Q22 := bx_f Q22 | replace Q22 := be_t Q22 | replace Q22 := be_f Q22 | replace Q22 := of_decide_eq_true Q22 | replace Q22 := of_decide_eq_false Q22)
                        first
                         | (exfalso; first | omega | contradiction | (cases Q22; done))
                         | skip
                           refine cd_region ?_
                           refine st_val (ro_fieldAddr RpcChk_f27_4 rfl) ?_
                           refine st_put (v := .int _ _) RpcChk_z3 rfl rfl rfl (hk1) (by show 0 + 4 < 13; decide) ?_
                           intro w23 O11_0 P11_0
                           replace hk2 := hk2.only O11_0 (by omega)
                           replace hk1 : Blk w23 b1 27 #[.int .i64 k, .int .i64 f, .int .i64 t, .int .i64 tm, .int .i64 0, .int .i64 lt, .int .i64 cm, .int .i64 rd, .bool ok, .slice E n c, .int .i64 a, .string d, .bool dn] := P11_0
                           refine st_val (ro_fieldAddr RpcChk_f27_5 rfl) ?_
                           refine st_put (v := .int _ _) RpcChk_z3 rfl rfl rfl (hk1) (by show 0 + 5 < 13; decide) ?_
                           intro w24 O11_1 P11_1
                           replace hk2 := hk2.only O11_1 (by omega)
                           replace hk1 : Blk w24 b1 27 #[.int .i64 k, .int .i64 f, .int .i64 t, .int .i64 tm, .int .i64 0, .int .i64 0, .int .i64 cm, .int .i64 rd, .bool ok, .slice E n c, .int .i64 a, .string d, .bool dn] := P11_1
                           refine st_val (ro_fieldAddr RpcChk_f27_7 rfl) ?_
                           refine st_put (v := .int _ _) RpcChk_z3 rfl rfl rfl (hk1) (by show 0 + 7 < 13; decide) ?_
                           intro w25 O11_2 P11_2
                           replace hk2 := hk2.only O11_2 (by omega)
                           replace hk1 : Blk w25 b1 27 #[.int .i64 k, .int .i64 f, .int .i64 t, .int .i64 tm, .int .i64 0, .int .i64 0, .int .i64 cm, .int .i64 0, .bool ok, .slice E n c, .int .i64 a, .string d, .bool dn] := P11_2
                           refine st_val (ro_fieldAddr RpcChk_f27_10 rfl) ?_
                           refine st_put (v := .int _ _) RpcChk_z3 rfl rfl rfl (hk1) (by show 0 + 10 < 13; decide) ?_
                           intro w26 O11_3 P11_3
                           replace hk2 := hk2.only O11_3 (by omega)
                           replace hk1 : Blk w26 b1 27 #[.int .i64 k, .int .i64 f, .int .i64 t, .int .i64 tm, .int .i64 0, .int .i64 0, .int .i64 cm, .int .i64 0, .bool ok, .slice E n c, .int .i64 0, .string d, .bool dn] := P11_3
                           refine st_val (ro_fieldAddr RpcChk_f27_11 rfl) ?_
                           refine st_put (v := .string _) RpcChk_z9 rfl rfl rfl (hk1) (by show 0 + 11 < 13; decide) ?_
                           intro w27 O11_4 P11_4
                           replace hk2 := hk2.only O11_4 (by omega)
                           replace hk1 : Blk w27 b1 27 #[.int .i64 k, .int .i64 f, .int .i64 t, .int .i64 tm, .int .i64 0, .int .i64 0, .int .i64 cm, .int .i64 0, .bool ok, .slice E n c, .int .i64 0, .string ⟨#[]⟩, .bool dn] := P11_4
                           refine st_val (ro_fieldAddr RpcChk_f27_12 rfl) ?_
                           refine st_put (v := .bool _) RpcChk_z4 rfl rfl rfl (hk1) (by show 0 + 12 < 13; decide) ?_
                           intro w28 O11_5 P11_5
                           replace hk2 := hk2.only O11_5 (by omega)
                           replace hk1 : Blk w28 b1 27 #[.int .i64 k, .int .i64 f, .int .i64 t, .int .i64 tm, .int .i64 0, .int .i64 0, .int .i64 cm, .int .i64 0, .bool ok, .slice E n c, .int .i64 0, .string ⟨#[]⟩, .bool false] := P11_5
                           refine st_nil ?_
                           refine nx_block ?_
                           refine nx_then ?_
                           refine cd_seq ?_
                           refine cd_region ?_
                           refine st_val (ro_loadA (cs := [_, _, _, _, _, _, _, _, _, _, _, _, _]) RpcChk_g27 RpcChk_z27 rfl (by exact hk1.whole)) ?_
                           refine st_putW (vs := [_, _, _, _, _, _, _, _, _, _, _, _, _]) RpcChk_z27 rfl rfl (by simp [Value.oneCell']) (hk2) rfl ?_
                           intro w29 O14 P14
                           refine st_nil ?_
                           refine nx_then ?_
                           refine cd_ret ?_
                           refine resr1 rfl (rv_cellA (cs := [_, _, _, _, _, _, _, _, _, _, _, _, _]) RpcChk_g27 RpcChk_z27 rfl (by exact P14.whole)) ?_
                           refine ⟨⟨_, _, _, _, _, _, _, _, _, _, _, rfl, ?_⟩, (((((((((From.rfl_.next E1).next E2).only O11_0 (hg1)).only O11_1 (hg1)).only O11_2 (hg1)).only O11_3 (hg1)).only O11_4 (hg1)).only O11_5 (hg1)).only O14 (hg2))⟩
                           unfold ExR
                           first
                             | (rw [if_pos (by omega)]; (try simp only [Bool.toNat_false, bz, true_and, and_true]); first | done | omega)
                             | (rw [if_neg (by omega), if_pos (by omega)]; (try simp only [Bool.toNat_false, bz, true_and, and_true]); first | done | omega)
                             | (rw [if_neg (by omega), if_neg (by omega), if_pos (by omega)]; (try simp only [Bool.toNat_false, bz, true_and, and_true]); first | done | omega)
                             | (rw [if_neg (by omega), if_neg (by omega), if_neg (by omega), if_pos (by omega)]; (try simp only [Bool.toNat_false, bz, true_and, and_true]); first | done | omega)
                             | (rw [if_neg (by omega), if_neg (by omega), if_neg (by omega), if_neg (by omega), if_pos (by omega)]; (try simp only [Bool.toNat_false, bz, true_and, and_true]); first | done | omega)
                             | (rw [if_neg (by omega), if_neg (by omega), if_neg (by omega), if_neg (by omega), if_neg (by omega), if_pos (by omega)]; (try simp only [Bool.toNat_false, bz, true_and, and_true]); first | done | omega)
                             | (rw [if_neg (by omega), if_neg (by omega), if_neg (by omega), if_neg (by omega), if_neg (by omega), if_neg (by omega)]; omega)
                      · (try first | replace Q22 := bn_t Q22 | replace Q22 := bn_f Q22)
                        (try first | replace Q22 := bx_t Q22 | replace Q22 := bx_f Q22 | replace Q22 := be_t Q22 | replace Q22 := be_f Q22 | replace Q22 := of_decide_eq_true Q22 | replace Q22 := of_decide_eq_false Q22)
                        first
                         | (exfalso; first | omega | contradiction | (cases Q22; done))
                         | skip
                           refine cd_seq ?_
                           refine cd_region ?_
                           refine st_val (ro_eql rfl rfl) ?_
                           refine st_val (ro_assign (v := .bool _) rfl) ?_
                           refine st_nil ?_
                           refine nx_then ?_
                           refine cd_cond rfl (fun Q30 => ?_) (fun Q30 => ?_)
                           · (try first | replace Q30 := bn_t Q30 | replace Q30 := bn_f Q30)
                             (try first | replace Q30 := bx_t Q30 | replace Q30 := bx_f Q30 | replace Q30 := be_t Q30 | replace Q30 := be_f Q30 | replace Q30 := of_decide_eq_true Q30 | replace Q30 := of_decide_eq_false Q30)
                             first
                              | (exfalso; first | omega | contradiction | (cases Q30; done))
                              | skip
                                refine cd_region ?_
                                refine st_val (ro_fieldAddr RpcChk_f27_4 rfl) ?_
                                refine st_put (v := .int _ _) RpcChk_z3 rfl rfl rfl (hk1) (by show 0 + 4 < 13; decide) ?_
                                intro w31 O13_0 P13_0
                                replace hk2 := hk2.only O13_0 (by omega)
                                replace hk1 : Blk w31 b1 27 #[.int .i64 k, .int .i64 f, .int .i64 t, .int .i64 tm, .int .i64 0, .int .i64 lt, .int .i64 cm, .int .i64 rd, .bool ok, .slice E n c, .int .i64 a, .string d, .bool dn] := P13_0
                                refine st_val (ro_fieldAddr RpcChk_f27_10 rfl) ?_
                                refine st_put (v := .int _ _) RpcChk_z3 rfl rfl rfl (hk1) (by show 0 + 10 < 13; decide) ?_
                                intro w32 O13_1 P13_1
                                replace hk2 := hk2.only O13_1 (by omega)
                                replace hk1 : Blk w32 b1 27 #[.int .i64 k, .int .i64 f, .int .i64 t, .int .i64 tm, .int .i64 0, .int .i64 lt, .int .i64 cm, .int .i64 rd, .bool ok, .slice E n c, .int .i64 0, .string d, .bool dn] := P13_1
                                refine st_val (ro_fieldAddr RpcChk_f27_7 rfl) ?_
                                refine st_put (v := .int _ _) RpcChk_z3 rfl rfl rfl (hk1) (by show 0 + 7 < 13; decide) ?_
                                intro w33 O13_2 P13_2
                                replace hk2 := hk2.only O13_2 (by omega)
                                replace hk1 : Blk w33 b1 27 #[.int .i64 k, .int .i64 f, .int .i64 t, .int .i64 tm, .int .i64 0, .int .i64 lt, .int .i64 cm, .int .i64 0, .bool ok, .slice E n c, .int .i64 0, .string d, .bool dn] := P13_2
                                refine st_nil ?_
                                refine nx_block ?_
                                refine nx_then ?_
                                refine cd_seq ?_
                                refine cd_region ?_
                                refine st_val (ro_loadA (cs := [_, _, _, _, _, _, _, _, _, _, _, _, _]) RpcChk_g27 RpcChk_z27 rfl (by exact hk1.whole)) ?_
                                refine st_putW (vs := [_, _, _, _, _, _, _, _, _, _, _, _, _]) RpcChk_z27 rfl rfl (by simp [Value.oneCell']) (hk2) rfl ?_
                                intro w34 O14 P14
                                refine st_nil ?_
                                refine nx_then ?_
                                refine cd_ret ?_
                                refine resr1 rfl (rv_cellA (cs := [_, _, _, _, _, _, _, _, _, _, _, _, _]) RpcChk_g27 RpcChk_z27 rfl (by exact P14.whole)) ?_
                                refine ⟨⟨_, _, _, _, _, _, _, _, _, _, _, rfl, ?_⟩, ((((((From.rfl_.next E1).next E2).only O13_0 (hg1)).only O13_1 (hg1)).only O13_2 (hg1)).only O14 (hg2))⟩
                                unfold ExR
                                first
                                  | (rw [if_pos (by omega)]; (try simp only [Bool.toNat_false, bz, true_and, and_true]); first | done | omega)
                                  | (rw [if_neg (by omega), if_pos (by omega)]; (try simp only [Bool.toNat_false, bz, true_and, and_true]); first | done | omega)
                                  | (rw [if_neg (by omega), if_neg (by omega), if_pos (by omega)]; (try simp only [Bool.toNat_false, bz, true_and, and_true]); first | done | omega)
                                  | (rw [if_neg (by omega), if_neg (by omega), if_neg (by omega), if_pos (by omega)]; (try simp only [Bool.toNat_false, bz, true_and, and_true]); first | done | omega)
                                  | (rw [if_neg (by omega), if_neg (by omega), if_neg (by omega), if_neg (by omega), if_pos (by omega)]; (try simp only [Bool.toNat_false, bz, true_and, and_true]); first | done | omega)
                                  | (rw [if_neg (by omega), if_neg (by omega), if_neg (by omega), if_neg (by omega), if_neg (by omega), if_pos (by omega)]; (try simp only [Bool.toNat_false, bz, true_and, and_true]); first | done | omega)
                                  | (rw [if_neg (by omega), if_neg (by omega), if_neg (by omega), if_neg (by omega), if_neg (by omega), if_neg (by omega)]; omega)
                           · (try first | replace Q30 := bn_t Q30 | replace Q30 := bn_f Q30)
                             (try first | replace Q30 := bx_t Q30 | replace Q30 := bx_f Q30 | replace Q30 := be_t Q30 | replace Q30 := be_f Q30 | replace Q30 := of_decide_eq_true Q30 | replace Q30 := of_decide_eq_false Q30)
                             first
                              | (exfalso; first | omega | contradiction | (cases Q30; done))
                              | skip
                                refine cd_skip ?_
                                refine nx_block ?_
                                refine nx_then ?_
                                refine cd_seq ?_
                                refine cd_region ?_
                                refine st_val (ro_loadA (cs := [_, _, _, _, _, _, _, _, _, _, _, _, _]) RpcChk_g27 RpcChk_z27 rfl (by exact hk1.whole)) ?_
                                refine st_putW (vs := [_, _, _, _, _, _, _, _, _, _, _, _, _]) RpcChk_z27 rfl rfl (by simp [Value.oneCell']) (hk2) rfl ?_
                                intro w35 O14 P14
                                refine st_nil ?_
                                refine nx_then ?_
                                refine cd_ret ?_
                                refine resr1 rfl (rv_cellA (cs := [_, _, _, _, _, _, _, _, _, _, _, _, _]) RpcChk_g27 RpcChk_z27 rfl (by exact P14.whole)) ?_
                                refine ⟨⟨_, _, _, _, _, _, _, _, _, _, _, rfl, ?_⟩, (((From.rfl_.next E1).next E2).only O14 (hg2))⟩
                                unfold ExR
                                first
                                  | (rw [if_pos (by omega)]; (try simp only [Bool.toNat_false, bz, true_and, and_true]); first | done | omega)
                                  | (rw [if_neg (by omega), if_pos (by omega)]; (try simp only [Bool.toNat_false, bz, true_and, and_true]); first | done | omega)
                                  | (rw [if_neg (by omega), if_neg (by omega), if_pos (by omega)]; (try simp only [Bool.toNat_false, bz, true_and, and_true]); first | done | omega)
                                  | (rw [if_neg (by omega), if_neg (by omega), if_neg (by omega), if_pos (by omega)]; (try simp only [Bool.toNat_false, bz, true_and, and_true]); first | done | omega)
                                  | (rw [if_neg (by omega), if_neg (by omega), if_neg (by omega), if_neg (by omega), if_pos (by omega)]; (try simp only [Bool.toNat_false, bz, true_and, and_true]); first | done | omega)
                                  | (rw [if_neg (by omega), if_neg (by omega), if_neg (by omega), if_neg (by omega), if_neg (by omega), if_pos (by omega)]; (try simp only [Bool.toNat_false, bz, true_and, and_true]); first | done | omega)
                                  | (rw [if_neg (by omega), if_neg (by omega), if_neg (by omega), if_neg (by omega), if_neg (by omega), if_neg (by omega)]; omega)
end Go.Proofs.YtjliefglelcooaaDoor

namespace Go.Proofs.YtjliefglelcooaaDoor
open Go.RowKit
open Go.ChangeShapes Go.WideShapes Go.ChangeAt
theorem RpcChk2_g27 : aggQ Tryd.prog 27 = some true := by kernel_rfl
theorem RpcChk2_f27_0 : fieldQ Tryd.prog 27 0 = some 0 := by kernel_rfl
theorem RpcChk2_g3 : aggQ Tryd.prog 3 = some false := by kernel_rfl
theorem RpcChk2_b72_ : Tryd.prog.built 72 [] = some #[.int .i64 0, .int .i64 0, .slice none 0 0] := by kernel_rfl
theorem RpcChk2_f27_4 : fieldQ Tryd.prog 27 4 = some 4 := by kernel_rfl
theorem RpcChk2_f27_5 : fieldQ Tryd.prog 27 5 = some 5 := by kernel_rfl
theorem RpcChk2_f27_9 : fieldQ Tryd.prog 27 9 = some 9 := by kernel_rfl
theorem RpcChk2_g25 : aggQ Tryd.prog 25 = some false := by kernel_rfl
theorem RpcChk2_k39 : callable Tryd.prog 39 = true := by kernel_rfl
theorem RpcChk2_o72 : zeroQ Tryd.prog 72 = some (.agg #[.int .i64 0, .int .i64 0, .slice none 0 0]) := by kernel_rfl
theorem RpcChk2_z72 : sizeQ Tryd.prog 72 = some 3 := by kernel_rfl
theorem RpcChk2_l25 : (elemQ Tryd.prog 25).isSome = true := by kernel_rfl
theorem RpcChk2_q64 : litQ Tryd.prog 64 = some (3, 1, 8, (.int .i64 0)) := by kernel_rfl
theorem RpcChk2_k26 : callable Tryd.prog 26 = true := by kernel_rfl
theorem RpcChk2_f27_10 : fieldQ Tryd.prog 27 10 = some 10 := by kernel_rfl
theorem RpcChk2_f27_11 : fieldQ Tryd.prog 27 11 = some 11 := by kernel_rfl
theorem RpcChk2_g9 : aggQ Tryd.prog 9 = some false := by kernel_rfl
theorem RpcChk2_f27_1 : fieldQ Tryd.prog 27 1 = some 1 := by kernel_rfl
theorem RpcChk2_f27_2 : fieldQ Tryd.prog 27 2 = some 2 := by kernel_rfl
theorem RpcChk2_f27_3 : fieldQ Tryd.prog 27 3 = some 3 := by kernel_rfl
theorem RpcChk2_f27_6 : fieldQ Tryd.prog 27 6 = some 6 := by kernel_rfl
theorem RpcChk2_f27_7 : fieldQ Tryd.prog 27 7 = some 7 := by kernel_rfl
theorem RpcChk2_z27 : sizeQ Tryd.prog 27 = some 13 := by kernel_rfl
theorem RpcChk2_k28 : callable Tryd.prog 28 = true := by kernel_rfl
theorem RpcChk2_k27 : callable Tryd.prog 27 = true := by kernel_rfl
theorem RpcChk2_k29 : callable Tryd.prog 29 = true := by kernel_rfl
theorem RpcChk2_k30 : callable Tryd.prog 30 = true := by kernel_rfl
theorem may0 {es : List Ent} (hl : es.length ≤ 512) (h : runs es 0 0 = true) : mayLog 0 0 es = true := by
  simp only [mayLog, Bool.and_eq_true, decide_eq_true_eq]
  exact ⟨⟨⟨by decide, by decide⟩, hl⟩, h⟩
theorem merge0 {p q : Int} {es : List Ent} (hp : 0 ≤ p ∧ p ≤ 1099511627775) (hq : 0 ≤ q ∧ q ≤ 1099511627775) (hl : es.length ≤ 16) : (mergeF 0 0 p q [] es).1 = 0 ↔ runs es p q = true := by
  by_cases h : runs es p q = true
  · refine ⟨fun _ => h, fun _ => ?_⟩
    unfold mergeF
    rw [if_pos ⟨may0 (by simp) rfl, inb_mk (by omega), inb_mk hq, h⟩]
    split
    · rfl
    · rename_i hn
      have hP : mgP 0 p = p := by unfold mgP; rw [if_neg (by omega)]
      have hQ : mgQ 0 0 p q = q := by unfold mgQ; rw [if_neg (by omega)]
      have hC : mgCut 0 p es = es := by unfold mgCut; rw [if_neg (by omega)]
      rw [hP, hQ] at hn
      have h0 : p = 0 := by
        simp only [List.length_nil] at hn
        omega
      subst h0
      have hT : termI 0 0 [] 0 = 0 := rfl
      rw [hT] at hn
      have h1 : q = 0 := by omega
      subst h1
      rw [hC]
      have hS : mgSkip 0 0 [] es = es := by
        cases es with
        | nil => rfl
        | cons e r =>
          refine mgSkip_stop fun h0 => ?_
          have := (runs_head h).1
          simp only [List.length_nil] at h0
          omega
      have hI : mgIdx 0 [] es = 0 := by
        cases es with
        | nil => rfl
        | cons e r =>
          have := (runs_head h).1
          show (e.i - 1 - 0).toNat = 0
          omega
      rw [hS]
      unfold mg2
      rw [hI, if_neg (by omega), if_pos (by simpa using may0 (by omega) h)]
  · refine ⟨fun h0 => ?_, fun h0 => absurd h0 h⟩
    unfold mergeF at h0
    rw [if_neg (fun a => h a.2.2.2)] at h0
    cases h0
set_option maxRecDepth 100000 in
set_option maxHeartbeats 400000 in
theorem validAppend_r (k f t tm ix lt cm rd : Int) (ok : Bool) (E : Option Addr) (n c : Nat) (a : Int) (d : ByteArray) (dn : Bool) (w : World) (es : List Ent) (hn : n = es.length) (he : Ents w (.slice E n c) es) (hl : es.length ≤ 400000000000) (hi : 0 ≤ ix ∧ ix ≤ 1099511627775) (hlt : 0 ≤ lt ∧ lt ≤ 1099511627775) :
    Rt Tryd.prog 29 [.agg #[.int .i64 k, .int .i64 f, .int .i64 t, .int .i64 tm, .int .i64 ix, .int .i64 lt, .int .i64 cm, .int .i64 rd, .bool ok, .slice E n c, .int .i64 a, .string d, .bool dn]] w (fun v w' => v = .bool (decide (AppR k ix lt es)) ∧ From w w') := by
  subst hn
  refine enter (n := 29) Tryd.func29 rfl rfl rfl ?_
  refine cd_seq ?_
  refine cd_region ?_
  refine st_box (v := .agg _) rfl ?_
  intro b1 w1 E1 hb1 hk1
  refine st_val (ro_assign (v := .bool _) rfl) ?_
  refine st_nil ?_
  refine nx_then ?_
  refine cd_seq ?_
  refine cd_seq ?_
  refine cd_region ?_
  refine st_val (ro_fieldAddr RpcChk2_f27_0 rfl) ?_
  refine st_val (ro_load RpcChk2_g3 rfl (by exact (hk1.from_ From.rfl_).rd 0 rfl)) ?_
  refine st_val (ro_neq rfl rfl) ?_
  refine st_nil ?_
  refine nx_then ?_
  refine cd_cond rfl (fun Q2 => ?_) (fun Q2 => ?_)
  · (try first | replace Q2 := bn_t Q2 | replace Q2 := bn_f Q2)
    (try first | replace Q2 := bx_t Q2 | replace Q2 := bx_f Q2 | replace Q2 := be_t Q2 | replace Q2 := be_f Q2 | replace Q2 := of_decide_eq_true Q2 | replace Q2 := of_decide_eq_false Q2)
    refine cd_seq ?_
    refine cd_region ?_
    refine st_val (ro_assign (v := .bool _) rfl) ?_
    refine st_nil ?_
    refine nx_then ?_
    refine cd_ret ?_
    refine rt_then ?_
    refine res1 (v := .bool _) rfl rfl ?_
    refine ⟨congrArg Value.bool (decide_eq_true ?_).symm, (From.rfl_.next E1)⟩
    intro h
    omega
  · (try first | replace Q2 := bn_t Q2 | replace Q2 := bn_f Q2)
    (try first | replace Q2 := bx_t Q2 | replace Q2 := bx_f Q2 | replace Q2 := be_t Q2 | replace Q2 := be_f Q2 | replace Q2 := of_decide_eq_true Q2 | replace Q2 := of_decide_eq_false Q2)
    refine cd_skip ?_
    refine nx_then ?_
    refine cd_seq ?_
    refine cd_region ?_
    refine st_val (ro_build (l := []) (RpcChk2_b72_)) ?_
    refine st_val (ro_fieldAddr RpcChk2_f27_4 rfl) ?_
    refine st_val (ro_load RpcChk2_g3 rfl (by exact (hk1.from_ From.rfl_).rd 4 rfl)) ?_
    refine st_val (ro_fieldAddr RpcChk2_f27_5 rfl) ?_
    refine st_val (ro_load RpcChk2_g3 rfl (by exact (hk1.from_ From.rfl_).rd 5 rfl)) ?_
    refine st_val (ro_fieldAddr RpcChk2_f27_9 rfl) ?_
    refine st_val (ro_load RpcChk2_g25 rfl (by exact (hk1.from_ From.rfl_).rd 9 rfl)) ?_
    refine st_call RpcChk2_k39 (merge_rt 0 0 ix lt none E 0 c [] es _ (Ents.nil_ _) (he.from_ (From.rfl_.next E1)) (by omega)) ?_
    rintro v17 w3 ⟨⟨X, Y, A2, m2, c2, rfl, -, -⟩, E17⟩
    refine st_val (ro_move (v := .tuple _) rfl) ?_
    refine st_val (ro_extract rfl rfl) ?_
    refine st_val (ro_extract rfl rfl) ?_
    refine st_val (ro_extract rfl rfl) ?_
    refine st_alloc RpcChk2_o72 ?_
    intro b3 w4 E3 hb3 hk3
    have hg3 : w.heap.size ≤ b3 := by rw [hb3]; exact (((From.rfl_.next E1).next E17)).size
    have h13 : b1 < b3 := by have := (hk1.from_ E17).lt; omega
    refine st_putW (vs := [_, _, _]) RpcChk2_z72 rfl rfl (by simp [Value.oneCell']) (hk3) rfl ?_
    intro w5 O3 P3
    replace hk1 := ((hk1.from_ (E17.next E3)).only O3 (by omega))
    refine st_val (ro_assign (v := .bool _) rfl) ?_
    refine st_val (ro_assign (v := .int _ _) rfl) ?_
    refine st_nil ?_
    refine nx_then ?_
    refine cd_seq ?_
    refine cd_region ?_
    refine st_val (ro_fieldAddr RpcChk2_f27_9 rfl) ?_
    refine st_val (ro_load RpcChk2_g25 rfl (by exact (hk1.from_ From.rfl_).rd 9 rfl)) ?_
    refine st_val (ro_len RpcChk2_l25 rfl) ?_
    refine st_val (ro_leq rfl rfl) ?_
    refine st_val (ro_move (v := .bool _) rfl) ?_
    refine st_split (t := 25) rfl (fun Q6 => ?_) (fun Q6 => ?_)
    · (try first | replace Q6 := bn_t Q6 | replace Q6 := bn_f Q6)
      (try first | replace Q6 := bx_t Q6 | replace Q6 := bx_f Q6 | replace Q6 := be_t Q6 | replace Q6 := be_f Q6 | replace Q6 := of_decide_eq_true Q6 | replace Q6 := of_decide_eq_false Q6)
      refine st_unguard rfl ?_
      refine st_val (ro_move (v := .int _ _) rfl) ?_
      refine st_unguard rfl ?_
      refine st_val (ro_eql rfl rfl) ?_
      refine st_val (ro_pickT (v := .bool _) rfl rfl) ?_
      refine st_val (ro_assign (v := .bool _) rfl) ?_
      refine st_nil ?_
      refine nx_then ?_
      refine cd_ret ?_
      refine res1 (v := .bool _) rfl rfl ?_
      refine ⟨congrArg Value.bool ?_, ((((From.rfl_.next E1).next E17).next E3).only O3 (hg3))⟩
      have hk3 : k = 3 := by omega
      by_cases h16 : es.length ≤ 16
      · have hm := merge0 hi hlt h16
        rw [Bool.eq_iff_iff, decide_eq_true_eq]
        unfold AppR
        first
          | (rw [beq_iff_eq, hm]; exact ⟨fun a _ => ⟨h16, a⟩, fun a => (a hk3).2⟩)
          | (exfalso; omega)
      · rw [eq_comm, Bool.eq_iff_iff, decide_eq_true_eq]
        unfold AppR
        first
          | (refine ⟨fun a => absurd (a hk3).1 h16, fun a => by cases a⟩)
          | (exfalso; omega)
    · (try first | replace Q6 := bn_t Q6 | replace Q6 := bn_f Q6)
      (try first | replace Q6 := bx_t Q6 | replace Q6 := bx_f Q6 | replace Q6 := be_t Q6 | replace Q6 := be_f Q6 | replace Q6 := of_decide_eq_true Q6 | replace Q6 := of_decide_eq_false Q6)
      refine st_gno rfl rfl ?_
      refine st_gno rfl rfl ?_
      refine st_val (ro_pickF (v := .bool _) rfl rfl) ?_
      refine st_val (ro_assign (v := .bool _) rfl) ?_
      refine st_nil ?_
      refine nx_then ?_
      refine cd_ret ?_
      refine res1 (v := .bool _) rfl rfl ?_
      refine ⟨congrArg Value.bool ?_, ((((From.rfl_.next E1).next E17).next E3).only O3 (hg3))⟩
      have hk3 : k = 3 := by omega
      by_cases h16 : es.length ≤ 16
      · have hm := merge0 hi hlt h16
        rw [Bool.eq_iff_iff, decide_eq_true_eq]
        unfold AppR
        first
          | (rw [beq_iff_eq, hm]; exact ⟨fun a _ => ⟨h16, a⟩, fun a => (a hk3).2⟩)
          | (exfalso; omega)
      · rw [eq_comm, Bool.eq_iff_iff, decide_eq_true_eq]
        unfold AppR
        first
          | (refine ⟨fun a => absurd (a hk3).1 h16, fun a => by cases a⟩)
          | (exfalso; omega)
set_option maxRecDepth 100000 in
set_option maxHeartbeats 400000 in
theorem validSnap_r (k f t tm ix lt cm rd : Int) (ok : Bool) (E : Option Addr) (n c : Nat) (a : Int) (d : ByteArray) (dn : Bool) (w : World) :
    Rt Tryd.prog 30 [.agg #[.int .i64 k, .int .i64 f, .int .i64 t, .int .i64 tm, .int .i64 ix, .int .i64 lt, .int .i64 cm, .int .i64 rd, .bool ok, .slice E n c, .int .i64 a, .string d, .bool dn]] w (fun v w' => v = .bool (decide (SnpR k ix a d)) ∧ From w w') := by
  refine enter (n := 23) Tryd.func30 rfl rfl rfl ?_
  refine cd_seq ?_
  refine cd_region ?_
  refine st_box (v := .agg _) rfl ?_
  intro b1 w1 E1 hb1 hk1
  refine st_val (ro_assign (v := .bool _) rfl) ?_
  refine st_nil ?_
  refine nx_then ?_
  refine cd_seq ?_
  refine cd_region ?_
  refine st_val (ro_fieldAddr RpcChk2_f27_0 rfl) ?_
  refine st_val (ro_load RpcChk2_g3 rfl (by exact (hk1.from_ From.rfl_).rd 0 rfl)) ?_
  refine st_val (ro_neq rfl rfl) ?_
  refine st_val (ro_move (v := .bool _) rfl) ?_
  refine st_split (t := 6) rfl (fun Q2 => ?_) (fun Q2 => ?_)
  · (try first | replace Q2 := bn_t Q2 | replace Q2 := bn_f Q2)
    (try first | replace Q2 := bx_t Q2 | replace Q2 := bx_f Q2 | replace Q2 := be_t Q2 | replace Q2 := be_f Q2 | replace Q2 := of_decide_eq_true Q2 | replace Q2 := of_decide_eq_false Q2)
    first
     | (exfalso; first | omega | contradiction | (cases Q2; done))
     | skip
       refine st_gno rfl rfl ?_
       refine st_gno rfl rfl ?_
       refine st_gno rfl rfl ?_
       refine st_gno rfl rfl ?_
       refine st_gno rfl rfl ?_
       refine st_gund rfl ?_
       refine st_gund rfl ?_
       refine st_gund rfl ?_
       refine st_gno rfl rfl ?_
       refine st_gno rfl rfl ?_
       refine st_gund rfl ?_
       refine st_gund rfl ?_
       refine st_gund rfl ?_
       refine st_gund rfl ?_
       refine st_gno rfl rfl ?_
       refine st_val (ro_pickT (v := .bool _) rfl rfl) ?_
       refine st_val (ro_assign (v := .bool _) rfl) ?_
       refine st_nil ?_
       refine nx_then ?_
       refine cd_ret ?_
       refine res1 (v := .bool _) rfl rfl ?_
       refine ⟨congrArg Value.bool ?_, (From.rfl_.next E1)⟩
       first
         | (rw [eq_comm, decide_eq_false_iff_not]; unfold SnpR; omega)
         | (rw [decide_eq_decide]; unfold SnpR; omega)
         | (rw [eq_comm, decide_eq_true_eq]; unfold SnpR; omega)
  · (try first | replace Q2 := bn_t Q2 | replace Q2 := bn_f Q2)
    (try first | replace Q2 := bx_t Q2 | replace Q2 := bx_f Q2 | replace Q2 := be_t Q2 | replace Q2 := be_f Q2 | replace Q2 := of_decide_eq_true Q2 | replace Q2 := of_decide_eq_false Q2)
    first
     | (exfalso; first | omega | contradiction | (cases Q2; done))
     | skip
       refine st_unguard rfl ?_
       refine st_val (ro_fieldAddr RpcChk2_f27_4 rfl) ?_
       refine st_unguard rfl ?_
       refine st_val (ro_load RpcChk2_g3 rfl (by exact (hk1.from_ From.rfl_).rd 4 rfl)) ?_
       refine st_unguard rfl ?_
       refine st_lit1 (v := .int _ _) RpcChk2_q64 rfl rfl rfl ?_
       intro b9 w3 E9 hb9 hk9
       refine st_unguard rfl ?_
       refine st_call RpcChk2_k26 (within_l 1 1099511625728 b9 1 1 [ix] _ rfl hk9 (by simp)) ?_
       rintro v10 w4 ⟨rfl, rfl⟩
       refine st_unguard rfl ?_
       refine st_val (ro_move (v := .bool _) rfl) ?_
       refine st_split (t := 11) rfl (fun Q5 => ?_) (fun Q5 => ?_)
       · (try first | replace Q5 := bn_t Q5 | replace Q5 := bn_f Q5)
         (try first | replace Q5 := bx_t Q5 | replace Q5 := bx_f Q5 | replace Q5 := be_t Q5 | replace Q5 := be_f Q5 | replace Q5 := of_decide_eq_true Q5 | replace Q5 := of_decide_eq_false Q5)
         simp only [allIn_cons, allIn_nil, and_true] at Q5
         first
          | (exfalso; first | omega | contradiction | (cases Q5; done))
          | skip
            refine st_unguard rfl ?_
            refine st_val (ro_fieldAddr RpcChk2_f27_10 rfl) ?_
            refine st_unguard rfl ?_
            refine st_val (ro_load RpcChk2_g3 rfl (by exact (hk1.from_ (From.rfl_.next E9)).rd 10 rfl)) ?_
            refine st_unguard rfl ?_
            refine st_val (ro_leq rfl rfl) ?_
            refine st_unguard rfl ?_
            refine st_val (ro_pickT (v := .bool _) rfl rfl) ?_
            refine st_unguard rfl ?_
            refine st_val (ro_move (v := .bool _) rfl) ?_
            refine st_split (t := 16) rfl (fun Q6 => ?_) (fun Q6 => ?_)
            · (try first | replace Q6 := bn_t Q6 | replace Q6 := bn_f Q6)
              (try first | replace Q6 := bx_t Q6 | replace Q6 := bx_f Q6 | replace Q6 := be_t Q6 | replace Q6 := be_f Q6 | replace Q6 := of_decide_eq_true Q6 | replace Q6 := of_decide_eq_false Q6)
              first
               | (exfalso; first | omega | contradiction | (cases Q6; done))
               | skip
                 refine st_unguard rfl ?_
                 refine st_val (ro_fieldAddr RpcChk2_f27_11 rfl) ?_
                 refine st_unguard rfl ?_
                 refine st_val (ro_load RpcChk2_g9 rfl (by exact (hk1.from_ (From.rfl_.next E9)).rd 11 rfl)) ?_
                 refine st_unguard rfl ?_
                 refine st_val (ro_lenS (by kernel_rfl) rfl) ?_
                 refine st_unguard rfl ?_
                 refine st_val (ro_leq rfl rfl) ?_
                 refine st_unguard rfl ?_
                 refine st_val (ro_pickT (v := .bool _) rfl rfl) ?_
                 refine st_val (ro_pickF (v := .bool _) rfl rfl) ?_
                 refine st_val (ro_assign (v := .bool _) rfl) ?_
                 refine st_nil ?_
                 refine nx_then ?_
                 refine cd_ret ?_
                 refine res1 (v := .bool _) rfl rfl ?_
                 refine ⟨congrArg Value.bool ?_, ((From.rfl_.next E1).next E9)⟩
                 first
                   | (rw [eq_comm, decide_eq_false_iff_not]; unfold SnpR; omega)
                   | (rw [decide_eq_decide]; unfold SnpR; omega)
                   | (rw [eq_comm, decide_eq_true_eq]; unfold SnpR; omega)
            · (try first | replace Q6 := bn_t Q6 | replace Q6 := bn_f Q6)
              (try first | replace Q6 := bx_t Q6 | replace Q6 := bx_f Q6 | replace Q6 := be_t Q6 | replace Q6 := be_f Q6 | replace Q6 := of_decide_eq_true Q6 | replace Q6 := of_decide_eq_false Q6)
              first
               | (exfalso; first | omega | contradiction | (cases Q6; done))
               | skip
                 refine st_gno rfl rfl ?_
                 refine st_gno rfl rfl ?_
                 refine st_gno rfl rfl ?_
                 refine st_gno rfl rfl ?_
                 refine st_unguard rfl ?_
                 refine st_val (ro_pickF (v := .bool _) rfl rfl) ?_
                 refine st_val (ro_pickF (v := .bool _) rfl rfl) ?_
                 refine st_val (ro_assign (v := .bool _) rfl) ?_
                 refine st_nil ?_
                 refine nx_then ?_
                 refine cd_ret ?_
                 refine res1 (v := .bool _) rfl rfl ?_
                 refine ⟨congrArg Value.bool ?_, ((From.rfl_.next E1).next E9)⟩
                 first
                   | (rw [eq_comm, decide_eq_false_iff_not]; unfold SnpR; omega)
                   | (rw [decide_eq_decide]; unfold SnpR; omega)
                   | (rw [eq_comm, decide_eq_true_eq]; unfold SnpR; omega)
       · (try first | replace Q5 := bn_t Q5 | replace Q5 := bn_f Q5)
         (try first | replace Q5 := bx_t Q5 | replace Q5 := bx_f Q5 | replace Q5 := be_t Q5 | replace Q5 := be_f Q5 | replace Q5 := of_decide_eq_true Q5 | replace Q5 := of_decide_eq_false Q5)
         simp only [allIn_cons, allIn_nil, and_true] at Q5
         first
          | (exfalso; first | omega | contradiction | (cases Q5; done))
          | skip
            refine st_gno rfl rfl ?_
            refine st_gno rfl rfl ?_
            refine st_gno rfl rfl ?_
            refine st_unguard rfl ?_
            refine st_val (ro_pickF (v := .bool _) rfl rfl) ?_
            refine st_unguard rfl ?_
            refine st_val (ro_move (v := .bool _) rfl) ?_
            refine st_gno rfl rfl ?_
            refine st_gno rfl rfl ?_
            refine st_gno rfl rfl ?_
            refine st_gno rfl rfl ?_
            refine st_unguard rfl ?_
            refine st_val (ro_pickF (v := .bool _) rfl rfl) ?_
            refine st_val (ro_pickF (v := .bool _) rfl rfl) ?_
            refine st_val (ro_assign (v := .bool _) rfl) ?_
            refine st_nil ?_
            refine nx_then ?_
            refine cd_ret ?_
            refine res1 (v := .bool _) rfl rfl ?_
            refine ⟨congrArg Value.bool ?_, ((From.rfl_.next E1).next E9)⟩
            first
              | (rw [eq_comm, decide_eq_false_iff_not]; unfold SnpR; omega)
              | (rw [decide_eq_decide]; unfold SnpR; omega)
              | (rw [eq_comm, decide_eq_true_eq]; unfold SnpR; omega)
set_option maxRecDepth 100000 in
set_option maxHeartbeats 2000000 in
theorem check_r (k f t tm ix lt cm rd : Int) (ok : Bool) (E : Option Addr) (n c : Nat) (a : Int) (d : ByteArray) (dn : Bool) (w : World) (es : List Ent) (hn : n = es.length) (he : Ents w (.slice E n c) es) (hl : es.length ≤ 400000000000) :
    Rt Tryd.prog 13 [.agg #[.int .i64 k, .int .i64 f, .int .i64 t, .int .i64 tm, .int .i64 ix, .int .i64 lt, .int .i64 cm, .int .i64 rd, .bool ok, .slice E n c, .int .i64 a, .string d, .bool dn]] w (fun v w' => v = .int .i64 (if OkR k f t tm ix lt cm rd ok es a d dn then 0 else 1) ∧ From w w') := by
  refine enter (n := 47) Tryd.func13 rfl rfl rfl ?_
  refine cd_seq ?_
  refine cd_region ?_
  refine st_box (v := .agg _) rfl ?_
  intro b1 w1 E1 hb1 hk1
  refine st_val (ro_assign (v := .int _ _) rfl) ?_
  refine st_nil ?_
  refine nx_then ?_
  refine cd_seq ?_
  refine cd_region ?_
  refine st_val (ro_fieldAddr RpcChk2_f27_0 rfl) ?_
  refine st_val (ro_load RpcChk2_g3 rfl (by exact (hk1.from_ From.rfl_).rd 0 rfl)) ?_
  refine st_lit1 (v := .int _ _) RpcChk2_q64 rfl rfl rfl ?_
  intro b6 w2 E6 hb6 hk6
  refine st_call RpcChk2_k26 (within_l 1 6 b6 1 1 [k] _ rfl hk6 (by simp)) ?_
  rintro v7 w3 ⟨rfl, rfl⟩
  refine st_val (ro_move (v := .bool _) rfl) ?_
  refine st_split (t := 8) rfl (fun Q4 => ?_) (fun Q4 => ?_)
  · (try first | replace Q4 := bn_t Q4 | replace Q4 := bn_f Q4)
    (try first | replace Q4 := bx_t Q4 | replace Q4 := bx_f Q4 | replace Q4 := be_t Q4 | replace Q4 := be_f Q4 | replace Q4 := of_decide_eq_true Q4 | replace Q4 := of_decide_eq_false Q4)
    simp only [allIn_cons, allIn_nil, and_true] at Q4
    have h8 := Q4
    refine st_unguard rfl ?_
    refine st_val (ro_fieldAddr RpcChk2_f27_1 rfl) ?_
    refine st_unguard rfl ?_
    refine st_val (ro_load RpcChk2_g3 rfl (by exact (hk1.from_ (From.rfl_.next E6)).rd 1 rfl)) ?_
    refine st_unguard rfl ?_
    refine st_val (ro_fieldAddr RpcChk2_f27_2 rfl) ?_
    refine st_unguard rfl ?_
    refine st_val (ro_load RpcChk2_g3 rfl (by exact (hk1.from_ (From.rfl_.next E6)).rd 2 rfl)) ?_
    refine st_unguard rfl ?_
    refine st_lits [.tmp 10, .tmp 12] [.int _ _, .int _ _] RpcChk2_q64 rfl rfl rfl rfl (by simp [Value.cells]) ?_
    intro b13 w5 E13 hb13 hk13
    refine st_unguard rfl ?_
    refine st_call RpcChk2_k26 (within_l 1 7 b13 2 2 [f, t] _ rfl hk13 (by simp)) ?_
    rintro v14 w6 ⟨rfl, rfl⟩
    refine st_val (ro_pickT (v := .bool _) rfl rfl) ?_
    refine st_val (ro_move (v := .bool _) rfl) ?_
    refine st_split (t := 16) rfl (fun Q7 => ?_) (fun Q7 => ?_)
    · (try first | replace Q7 := bn_t Q7 | replace Q7 := bn_f Q7)
      (try first | replace Q7 := bx_t Q7 | replace Q7 := bx_f Q7 | replace Q7 := be_t Q7 | replace Q7 := be_f Q7 | replace Q7 := of_decide_eq_true Q7 | replace Q7 := of_decide_eq_false Q7)
      simp only [allIn_cons, allIn_nil, and_true] at Q7
      have h16 := Q7
      refine st_unguard rfl ?_
      refine st_val (ro_fieldAddr RpcChk2_f27_3 rfl) ?_
      refine st_unguard rfl ?_
      refine st_val (ro_load RpcChk2_g3 rfl (by exact (hk1.from_ ((From.rfl_.next E6).next E13)).rd 3 rfl)) ?_
      refine st_unguard rfl ?_
      refine st_val (ro_fieldAddr RpcChk2_f27_4 rfl) ?_
      refine st_unguard rfl ?_
      refine st_val (ro_load RpcChk2_g3 rfl (by exact (hk1.from_ ((From.rfl_.next E6).next E13)).rd 4 rfl)) ?_
      refine st_unguard rfl ?_
      refine st_val (ro_fieldAddr RpcChk2_f27_5 rfl) ?_
      refine st_unguard rfl ?_
      refine st_val (ro_load RpcChk2_g3 rfl (by exact (hk1.from_ ((From.rfl_.next E6).next E13)).rd 5 rfl)) ?_
      refine st_unguard rfl ?_
      refine st_val (ro_fieldAddr RpcChk2_f27_6 rfl) ?_
      refine st_unguard rfl ?_
      refine st_val (ro_load RpcChk2_g3 rfl (by exact (hk1.from_ ((From.rfl_.next E6).next E13)).rd 6 rfl)) ?_
      refine st_unguard rfl ?_
      refine st_val (ro_fieldAddr RpcChk2_f27_7 rfl) ?_
      refine st_unguard rfl ?_
      refine st_val (ro_load RpcChk2_g3 rfl (by exact (hk1.from_ ((From.rfl_.next E6).next E13)).rd 7 rfl)) ?_
      refine st_unguard rfl ?_
      refine st_val (ro_fieldAddr RpcChk2_f27_10 rfl) ?_
      refine st_unguard rfl ?_
      refine st_val (ro_load RpcChk2_g3 rfl (by exact (hk1.from_ ((From.rfl_.next E6).next E13)).rd 10 rfl)) ?_
      refine st_unguard rfl ?_
      refine st_lits [.tmp 18, .tmp 20, .tmp 22, .tmp 24, .tmp 26, .tmp 28] [.int _ _, .int _ _, .int _ _, .int _ _, .int _ _, .int _ _] RpcChk2_q64 rfl rfl rfl rfl (by simp [Value.cells]) ?_
      intro b29 w8 E29 hb29 hk29
      refine st_unguard rfl ?_
      refine st_call RpcChk2_k26 (within_l 0 1099511627775 b29 6 6 [tm, ix, lt, cm, rd, a] _ rfl hk29 (by simp)) ?_
      rintro v30 w9 ⟨rfl, rfl⟩
      refine st_val (ro_pickT (v := .bool _) rfl rfl) ?_
      refine st_val (ro_move (v := .bool _) rfl) ?_
      refine st_split (t := 32) rfl (fun Q10 => ?_) (fun Q10 => ?_)
      · (try first | replace Q10 := bn_t Q10 | replace Q10 := bn_f Q10)
        (try first | replace Q10 := bx_t Q10 | replace Q10 := bx_f Q10 | replace Q10 := be_t Q10 | replace Q10 := be_f Q10 | replace Q10 := of_decide_eq_true Q10 | replace Q10 := of_decide_eq_false Q10)
        simp only [allIn_cons, allIn_nil, and_true] at Q10
        have h32 := Q10
        refine st_unguard rfl ?_
        refine st_val (ro_loadA (cs := [_, _, _, _, _, _, _, _, _, _, _, _, _]) RpcChk2_g27 RpcChk2_z27 rfl (by exact (hk1.from_ (((From.rfl_.next E6).next E13).next E29)).whole)) ?_
        refine st_unguard rfl ?_
        refine st_call RpcChk2_k28 (without_r k f t tm ix lt cm rd ok E n c a d dn _) ?_
        rintro v34 w11 ⟨⟨ix', lt', cm', rd', ok', E', n', c', a', d', dn', rfl, hex⟩, E34⟩
        refine st_unguard rfl ?_
        refine st_call RpcChk2_k27 (empty_r k f t tm ix' lt' cm' rd' ok' E' n' c' a' d' dn' _) ?_
        rintro v35 w12 ⟨rfl, E35⟩
        refine st_val (ro_pickT (v := .bool _) rfl rfl) ?_
        refine st_val (ro_move (v := .bool _) rfl) ?_
        refine st_split (t := 37) rfl (fun Q13 => ?_) (fun Q13 => ?_)
        · (try first | replace Q13 := bn_t Q13 | replace Q13 := bn_f Q13)
          (try first | replace Q13 := bx_t Q13 | replace Q13 := bx_f Q13 | replace Q13 := be_t Q13 | replace Q13 := be_f Q13 | replace Q13 := of_decide_eq_true Q13 | replace Q13 := of_decide_eq_false Q13)
          have hx := hex.1 Q13
          have h37 := Q13
          refine st_unguard rfl ?_
          refine st_val (ro_loadA (cs := [_, _, _, _, _, _, _, _, _, _, _, _, _]) RpcChk2_g27 RpcChk2_z27 rfl (by exact (hk1.from_ (((((From.rfl_.next E6).next E13).next E29).next E34).next E35)).whole)) ?_
          refine st_unguard rfl ?_
          refine st_call RpcChk2_k29 (validAppend_r k f t tm ix lt cm rd ok E n c a d dn _ es hn (he.from_ ((((((From.rfl_.next E1).next E6).next E13).next E29).next E34).next E35)) hl (by omega) (by omega)) ?_
          rintro v39 w14 ⟨rfl, E39⟩
          refine st_val (ro_pickT (v := .bool _) rfl rfl) ?_
          refine st_val (ro_move (v := .bool _) rfl) ?_
          refine st_split (t := 41) rfl (fun Q15 => ?_) (fun Q15 => ?_)
          · (try first | replace Q15 := bn_t Q15 | replace Q15 := bn_f Q15)
            (try first | replace Q15 := bx_t Q15 | replace Q15 := bx_f Q15 | replace Q15 := be_t Q15 | replace Q15 := be_f Q15 | replace Q15 := of_decide_eq_true Q15 | replace Q15 := of_decide_eq_false Q15)
            have h41 := Q15
            refine st_unguard rfl ?_
            refine st_val (ro_loadA (cs := [_, _, _, _, _, _, _, _, _, _, _, _, _]) RpcChk2_g27 RpcChk2_z27 rfl (by exact (hk1.from_ ((((((From.rfl_.next E6).next E13).next E29).next E34).next E35).next E39)).whole)) ?_
            refine st_unguard rfl ?_
            refine st_call RpcChk2_k30 (validSnap_r k f t tm ix lt cm rd ok E n c a d dn _) ?_
            rintro v43 w16 ⟨rfl, E43⟩
            refine st_val (ro_pickT (v := .bool _) rfl rfl) ?_
            refine st_val (ro_assign (v := .bool _) rfl) ?_
            refine st_nil ?_
            refine nx_then ?_
            refine cd_seq ?_
            refine cd_seq ?_
            refine cd_region ?_
            refine st_val (ro_move (v := .bool _) rfl) ?_
            refine st_val (ro_not rfl) ?_
            refine st_nil ?_
            refine nx_then ?_
            refine cd_cond rfl (fun Q17 => ?_) (fun Q17 => ?_)
            · (try first | replace Q17 := bn_t Q17 | replace Q17 := bn_f Q17)
              (try first | replace Q17 := bx_t Q17 | replace Q17 := bx_f Q17 | replace Q17 := be_t Q17 | replace Q17 := be_f Q17 | replace Q17 := of_decide_eq_true Q17 | replace Q17 := of_decide_eq_false Q17)
              have hno : ¬ (OkR k f t tm ix lt cm rd ok es a d dn) := fun h => Q17 h.2.2.2
              refine cd_seq ?_
              refine cd_region ?_
              refine st_val (ro_assign (v := .int _ _) rfl) ?_
              refine st_nil ?_
              refine nx_then ?_
              refine cd_ret ?_
              refine rt_then ?_
              refine res1 (v := .int _ _) rfl rfl ?_
              exact ⟨int_eq (by rw [if_neg hno]), ((((((((From.rfl_.next E1).next E6).next E13).next E29).next E34).next E35).next E39).next E43)⟩
            · (try first | replace Q17 := bn_t Q17 | replace Q17 := bn_f Q17)
              (try first | replace Q17 := bx_t Q17 | replace Q17 := bx_f Q17 | replace Q17 := be_t Q17 | replace Q17 := be_f Q17 | replace Q17 := of_decide_eq_true Q17 | replace Q17 := of_decide_eq_false Q17)
              have hyes : OkR k f t tm ix lt cm rd ok es a d dn := ⟨by unfold NumR; omega, hn ▸ hx, h41, Q17⟩
              refine cd_skip ?_
              refine nx_then ?_
              refine cd_seq ?_
              refine cd_region ?_
              refine st_val (ro_assign (v := .int _ _) rfl) ?_
              refine st_nil ?_
              refine nx_then ?_
              refine cd_ret ?_
              refine res1 (v := .int _ _) rfl rfl ?_
              exact ⟨int_eq (by rw [if_pos hyes]), ((((((((From.rfl_.next E1).next E6).next E13).next E29).next E34).next E35).next E39).next E43)⟩
          · (try first | replace Q15 := bn_t Q15 | replace Q15 := bn_f Q15)
            (try first | replace Q15 := bx_t Q15 | replace Q15 := bx_f Q15 | replace Q15 := be_t Q15 | replace Q15 := be_f Q15 | replace Q15 := of_decide_eq_true Q15 | replace Q15 := of_decide_eq_false Q15)
            have hno : ¬ (OkR k f t tm ix lt cm rd ok es a d dn) := fun h => Q15 h.2.2.1
            refine st_gno rfl rfl ?_
            refine st_gno rfl rfl ?_
            refine st_val (ro_pickF (v := .bool _) rfl rfl) ?_
            refine st_val (ro_assign (v := .bool _) rfl) ?_
            refine st_nil ?_
            refine nx_then ?_
            refine cd_seq ?_
            refine cd_seq ?_
            refine cd_region ?_
            refine st_val (ro_move (v := .bool _) rfl) ?_
            refine st_val (ro_not rfl) ?_
            refine st_nil ?_
            refine nx_then ?_
            refine cd_condT rfl ?_
            refine cd_seq ?_
            refine cd_region ?_
            refine st_val (ro_assign (v := .int _ _) rfl) ?_
            refine st_nil ?_
            refine nx_then ?_
            refine cd_ret ?_
            refine rt_then ?_
            refine res1 (v := .int _ _) rfl rfl ?_
            exact ⟨int_eq (by rw [if_neg hno]), (((((((From.rfl_.next E1).next E6).next E13).next E29).next E34).next E35).next E39)⟩
        · (try first | replace Q13 := bn_t Q13 | replace Q13 := bn_f Q13)
          (try first | replace Q13 := bx_t Q13 | replace Q13 := bx_f Q13 | replace Q13 := be_t Q13 | replace Q13 := be_f Q13 | replace Q13 := of_decide_eq_true Q13 | replace Q13 := of_decide_eq_false Q13)
          have hno : ¬ (OkR k f t tm ix lt cm rd ok es a d dn) := fun h => Q13 (hex.2 (hn ▸ h.2.1))
          refine st_gno rfl rfl ?_
          refine st_gno rfl rfl ?_
          refine st_val (ro_pickF (v := .bool _) rfl rfl) ?_
          refine st_val (ro_move (v := .bool _) rfl) ?_
          refine st_gno rfl rfl ?_
          refine st_gno rfl rfl ?_
          refine st_val (ro_pickF (v := .bool _) rfl rfl) ?_
          refine st_val (ro_assign (v := .bool _) rfl) ?_
          refine st_nil ?_
          refine nx_then ?_
          refine cd_seq ?_
          refine cd_seq ?_
          refine cd_region ?_
          refine st_val (ro_move (v := .bool _) rfl) ?_
          refine st_val (ro_not rfl) ?_
          refine st_nil ?_
          refine nx_then ?_
          refine cd_condT rfl ?_
          refine cd_seq ?_
          refine cd_region ?_
          refine st_val (ro_assign (v := .int _ _) rfl) ?_
          refine st_nil ?_
          refine nx_then ?_
          refine cd_ret ?_
          refine rt_then ?_
          refine res1 (v := .int _ _) rfl rfl ?_
          exact ⟨int_eq (by rw [if_neg hno]), ((((((From.rfl_.next E1).next E6).next E13).next E29).next E34).next E35)⟩
      · (try first | replace Q10 := bn_t Q10 | replace Q10 := bn_f Q10)
        (try first | replace Q10 := bx_t Q10 | replace Q10 := bx_f Q10 | replace Q10 := be_t Q10 | replace Q10 := be_f Q10 | replace Q10 := of_decide_eq_true Q10 | replace Q10 := of_decide_eq_false Q10)
        simp only [allIn_cons, allIn_nil, and_true] at Q10
        have hno : ¬ (OkR k f t tm ix lt cm rd ok es a d dn) := fun h => Q10 (by have := h.1; unfold NumR at this; omega)
        refine st_gno rfl rfl ?_
        refine st_gno rfl rfl ?_
        refine st_gno rfl rfl ?_
        refine st_val (ro_pickF (v := .bool _) rfl rfl) ?_
        refine st_val (ro_move (v := .bool _) rfl) ?_
        refine st_gno rfl rfl ?_
        refine st_gno rfl rfl ?_
        refine st_val (ro_pickF (v := .bool _) rfl rfl) ?_
        refine st_val (ro_move (v := .bool _) rfl) ?_
        refine st_gno rfl rfl ?_
        refine st_gno rfl rfl ?_
        refine st_val (ro_pickF (v := .bool _) rfl rfl) ?_
        refine st_val (ro_assign (v := .bool _) rfl) ?_
        refine st_nil ?_
        refine nx_then ?_
        refine cd_seq ?_
        refine cd_seq ?_
        refine cd_region ?_
        refine st_val (ro_move (v := .bool _) rfl) ?_
        refine st_val (ro_not rfl) ?_
        refine st_nil ?_
        refine nx_then ?_
        refine cd_condT rfl ?_
        refine cd_seq ?_
        refine cd_region ?_
        refine st_val (ro_assign (v := .int _ _) rfl) ?_
        refine st_nil ?_
        refine nx_then ?_
        refine cd_ret ?_
        refine rt_then ?_
        refine res1 (v := .int _ _) rfl rfl ?_
        exact ⟨int_eq (by rw [if_neg hno]), ((((From.rfl_.next E1).next E6).next E13).next E29)⟩
    · (try first | replace Q7 := bn_t Q7 | replace Q7 := bn_f Q7)
      (try first | replace Q7 := bx_t Q7 | replace Q7 := bx_f Q7 | replace Q7 := be_t Q7 | replace Q7 := be_f Q7 | replace Q7 := of_decide_eq_true Q7 | replace Q7 := of_decide_eq_false Q7)
      simp only [allIn_cons, allIn_nil, and_true] at Q7
      have hno : ¬ (OkR k f t tm ix lt cm rd ok es a d dn) := fun h => Q7 (by have := h.1; unfold NumR at this; omega)
      refine st_gno rfl rfl ?_
      refine st_gno rfl rfl ?_
      refine st_gno rfl rfl ?_
      refine st_gno rfl rfl ?_
      refine st_gno rfl rfl ?_
      refine st_gno rfl rfl ?_
      refine st_gno rfl rfl ?_
      refine st_gno rfl rfl ?_
      refine st_gno rfl rfl ?_
      refine st_gno rfl rfl ?_
      refine st_gno rfl rfl ?_
      refine st_gno rfl rfl ?_
      refine st_gno rfl rfl ?_
      refine st_gno rfl rfl ?_
      refine st_val (ro_pickF (v := .bool _) rfl rfl) ?_
      refine st_val (ro_move (v := .bool _) rfl) ?_
      refine st_gno rfl rfl ?_
      refine st_gno rfl rfl ?_
      refine st_gno rfl rfl ?_
      refine st_val (ro_pickF (v := .bool _) rfl rfl) ?_
      refine st_val (ro_move (v := .bool _) rfl) ?_
      refine st_gno rfl rfl ?_
      refine st_gno rfl rfl ?_
      refine st_val (ro_pickF (v := .bool _) rfl rfl) ?_
      refine st_val (ro_move (v := .bool _) rfl) ?_
      refine st_gno rfl rfl ?_
      refine st_gno rfl rfl ?_
      refine st_val (ro_pickF (v := .bool _) rfl rfl) ?_
      refine st_val (ro_assign (v := .bool _) rfl) ?_
      refine st_nil ?_
      refine nx_then ?_
      refine cd_seq ?_
      refine cd_seq ?_
      refine cd_region ?_
      refine st_val (ro_move (v := .bool _) rfl) ?_
      refine st_val (ro_not rfl) ?_
      refine st_nil ?_
      refine nx_then ?_
      refine cd_condT rfl ?_
      refine cd_seq ?_
      refine cd_region ?_
      refine st_val (ro_assign (v := .int _ _) rfl) ?_
      refine st_nil ?_
      refine nx_then ?_
      refine cd_ret ?_
      refine rt_then ?_
      refine res1 (v := .int _ _) rfl rfl ?_
      exact ⟨int_eq (by rw [if_neg hno]), (((From.rfl_.next E1).next E6).next E13)⟩
  · (try first | replace Q4 := bn_t Q4 | replace Q4 := bn_f Q4)
    (try first | replace Q4 := bx_t Q4 | replace Q4 := bx_f Q4 | replace Q4 := be_t Q4 | replace Q4 := be_f Q4 | replace Q4 := of_decide_eq_true Q4 | replace Q4 := of_decide_eq_false Q4)
    simp only [allIn_cons, allIn_nil, and_true] at Q4
    have hno : ¬ (OkR k f t tm ix lt cm rd ok es a d dn) := fun h => Q4 (by have := h.1; unfold NumR at this; omega)
    refine st_gno rfl rfl ?_
    refine st_gno rfl rfl ?_
    refine st_gno rfl rfl ?_
    refine st_gno rfl rfl ?_
    refine st_gno rfl rfl ?_
    refine st_gno rfl rfl ?_
    refine st_val (ro_pickF (v := .bool _) rfl rfl) ?_
    refine st_val (ro_move (v := .bool _) rfl) ?_
    refine st_gno rfl rfl ?_
    refine st_gno rfl rfl ?_
    refine st_gno rfl rfl ?_
    refine st_gno rfl rfl ?_
    refine st_gno rfl rfl ?_
    refine st_gno rfl rfl ?_
    refine st_gno rfl rfl ?_
    refine st_gno rfl rfl ?_
    refine st_gno rfl rfl ?_
    refine st_gno rfl rfl ?_
    refine st_gno rfl rfl ?_
    refine st_gno rfl rfl ?_
    refine st_gno rfl rfl ?_
    refine st_gno rfl rfl ?_
    refine st_val (ro_pickF (v := .bool _) rfl rfl) ?_
    refine st_val (ro_move (v := .bool _) rfl) ?_
    refine st_gno rfl rfl ?_
    refine st_gno rfl rfl ?_
    refine st_gno rfl rfl ?_
    refine st_val (ro_pickF (v := .bool _) rfl rfl) ?_
    refine st_val (ro_move (v := .bool _) rfl) ?_
    refine st_gno rfl rfl ?_
    refine st_gno rfl rfl ?_
    refine st_val (ro_pickF (v := .bool _) rfl rfl) ?_
    refine st_val (ro_move (v := .bool _) rfl) ?_
    refine st_gno rfl rfl ?_
    refine st_gno rfl rfl ?_
    refine st_val (ro_pickF (v := .bool _) rfl rfl) ?_
    refine st_val (ro_assign (v := .bool _) rfl) ?_
    refine st_nil ?_
    refine nx_then ?_
    refine cd_seq ?_
    refine cd_seq ?_
    refine cd_region ?_
    refine st_val (ro_move (v := .bool _) rfl) ?_
    refine st_val (ro_not rfl) ?_
    refine st_nil ?_
    refine nx_then ?_
    refine cd_condT rfl ?_
    refine cd_seq ?_
    refine cd_region ?_
    refine st_val (ro_assign (v := .int _ _) rfl) ?_
    refine st_nil ?_
    refine nx_then ?_
    refine cd_ret ?_
    refine rt_then ?_
    refine res1 (v := .int _ _) rfl rfl ?_
    exact ⟨int_eq (by rw [if_neg hno]), ((From.rfl_.next E1).next E6)⟩
end Go.Proofs.YtjliefglelcooaaDoor

namespace Go.Proofs.YtjliefglelcooaaDoor.CM

abbrev W32 := BitVec 32

/-- the sum of the columns where x has a bit, from bit i on -/
def comb : List W32 → Nat → W32 → W32
  | [], _, _ => 0#32
  | c :: r, i, x => (if x.getLsbD i then c else 0#32) ^^^ comb r (i + 1) x

structure Add (f : W32 → W32) : Prop where
  zero : f 0#32 = 0#32
  add : ∀ a b, f (a ^^^ b) = f a ^^^ f b

theorem xor_assoc4 (a b c d : W32) : (a ^^^ b) ^^^ (c ^^^ d) = (a ^^^ c) ^^^ (b ^^^ d) := by
  rw [BitVec.xor_assoc, BitVec.xor_assoc, ← BitVec.xor_assoc b, ← BitVec.xor_assoc c, BitVec.xor_comm b c]

theorem Add.id_ : Add (fun x => x) := ⟨rfl, fun _ _ => rfl⟩
theorem Add.comp {f g : W32 → W32} (hf : Add f) (hg : Add g) : Add (fun x => f (g x)) := ⟨by rw [hg.zero, hf.zero], fun a b => by rw [hg.add, hf.add]⟩
theorem Add.plus {f g : W32 → W32} (hf : Add f) (hg : Add g) : Add (fun x => f x ^^^ g x) :=
  ⟨by rw [hf.zero, hg.zero]; rfl, fun a b => by rw [hf.add, hg.add, xor_assoc4]⟩
theorem Add.shl (n : Nat) : Add (fun x => x <<< n) := ⟨by simp, fun a b => by rw [BitVec.shiftLeft_xor_distrib]⟩
theorem Add.shr (n : Nat) : Add (fun x => x >>> n) := ⟨by simp, fun a b => by rw [BitVec.ushiftRight_xor_distrib]⟩

theorem comb_zero : ∀ (l : List W32) (i : Nat), comb l i 0#32 = 0#32
  | [], _ => rfl
  | c :: r, i => by simp [comb, comb_zero r]
theorem comb_add : ∀ (l : List W32) (i : Nat) (a b : W32), comb l i (a ^^^ b) = comb l i a ^^^ comb l i b
  | [], _, _, _ => by simp [comb]
  | c :: r, i, a, b => by
    simp only [comb, comb_add r, BitVec.getLsbD_xor]
    rw [xor_assoc4]
    cases a.getLsbD i <;> cases b.getLsbD i <;> simp
theorem Add.comb (l : List W32) (i : Nat) : Add (comb l i) := ⟨comb_zero l i, comb_add l i⟩

theorem top (x : W32) (i : Nat) : (x >>> i) <<< i = (if x.getLsbD i then (1#32 <<< i) else 0#32) ^^^ ((x >>> (i + 1)) <<< (i + 1)) := by
  apply BitVec.eq_of_getLsbD_eq
  intro j hj
  rw [BitVec.getLsbD_xor]
  have e : (if x.getLsbD i then (1#32 <<< i) else 0#32).getLsbD j = (x.getLsbD i && decide (j = i)) := by
    by_cases h : x.getLsbD i
    · simp only [h, if_true, Bool.true_and]
      simp [BitVec.getLsbD_shiftLeft, hj]
      by_cases hji : j = i
      · simp [hji]
      · by_cases hlt : j < i
        · simp [hlt, hji]
        · have : j - i ≠ 0 := by omega
          simp [hlt, hji, this]
    · simp [h]
  rw [e]
  simp only [BitVec.getLsbD_shiftLeft, BitVec.getLsbD_ushiftRight, hj, decide_true, Bool.true_and]
  by_cases h1 : j < i
  · have h2 : j < i + 1 := by omega
    have h3 : ¬ j = i := by omega
    simp [h1, h2, h3]
  · by_cases h3 : j = i
    · subst h3
      simp
    · have h2 : ¬ j < i + 1 := by omega
      have h4 : i + (j - i) = j := by omega
      have h5 : i + 1 + (j - (i + 1)) = j := by omega
      simp [h1, h2, h3, h4, h5]

/-- an additive map is the sum of its columns -/
theorem Add.eq_comb {f : W32 → W32} (hf : Add f) : ∀ (m i : Nat), i + m = 32 → ∀ x : W32, f ((x >>> i) <<< i) = CM.comb ((List.range' i m).map fun k => f (1#32 <<< k)) i x
  | 0, i, h, x => by
    have : x >>> i = 0#32 := by
      apply BitVec.eq_of_getLsbD_eq
      intro j hj
      rw [BitVec.getLsbD_ushiftRight]
      have : x.getLsbD (i + j) = false := BitVec.getLsbD_of_ge x _ (by omega)
      simp [this]
    rw [this]
    simp [CM.comb, hf.zero]
  | m + 1, i, h, x => by
    rw [top, hf.add, Add.eq_comb hf m (i + 1) (by omega) x]
    simp only [List.range'_succ, List.map_cons, CM.comb]
    congr 1
    by_cases hx : x.getLsbD i
    · simp [hx]
    · simp [hx, hf.zero]

def basis : List W32 := (List.range' 0 32).map fun k => 1#32 <<< k

theorem Add.ext {f g : W32 → W32} (hf : Add f) (hg : Add g) (h : basis.map f = basis.map g) : f = g := by
  funext x
  have e1 := hf.eq_comb 32 0 rfl x
  have e2 := hg.eq_comb 32 0 rfl x
  simp only [BitVec.ushiftRight_zero, BitVec.shiftLeft_zero] at e1 e2
  have h' : (List.range' 0 32).map (fun k => f (1#32 <<< k)) = (List.range' 0 32).map (fun k => g (1#32 <<< k)) := by simpa [basis, List.map_map] using h
  rw [e1, e2, h']

/-- gauss, to find an inverse's columns (what it finds is checked, not trusted) -/
def pivot (r : W32 × W32) (l : List (W32 × W32)) (i : Nat) : List (W32 × W32) := l.map fun p => if p.1.getLsbD i then (p.1 ^^^ r.1, p.2 ^^^ r.2) else p
def gauss : Nat → Nat → List (W32 × W32) → List (W32 × W32) → List (W32 × W32)
  | 0, _, done, _ => done
  | n + 1, i, done, todo =>
    match todo.find? (fun p => p.1.getLsbD i) with
    | none => done
    | some r => gauss n (i + 1) (pivot r done i ++ [r]) (pivot r (todo.filter fun p => p.1 != r.1) i)
def invCols (f : W32 → W32) : List W32 := (gauss 32 0 [] (basis.map fun e => (f e, e))).map (·.2)

def tabL : List W32 := [0, 498536548, 997073096, 651767980, 1994146192, 1802195444, 1303535960, 1342533948, 3988292384, 4027552580, 3604390888, 3412177804, 2607071920, 2262029012, 2685067896, 3183342108]
def tab (i : Nat) : W32 := tabL.getD i 0
def half (c : W32) : W32 := (c >>> 4) ^^^ tab (c &&& 15#32).toNat
def bstep (c : W32) : W32 := if c &&& 1#32 = 1#32 then (c >>> 1) ^^^ 3988292384#32 else c >>> 1

theorem and_add (m : W32) : Add (fun x => x &&& m) := ⟨by simp, fun a b => by
  apply BitVec.eq_of_getLsbD_eq
  intro j _
  simp only [BitVec.getLsbD_and, BitVec.getLsbD_xor]
  cases a.getLsbD j <;> cases b.getLsbD j <;> cases m.getLsbD j <;> rfl⟩

theorem tab_add : ∀ a : Fin 16, ∀ b : Fin 16, tab (BitVec.ofNat 32 a.val ^^^ BitVec.ofNat 32 b.val).toNat = tab a.val ^^^ tab b.val := by decide +kernel
theorem low4 (a : W32) : (a &&& 15#32).toNat < 16 := by
  rw [BitVec.toNat_and]
  exact Nat.lt_of_le_of_lt Nat.and_le_right (by decide)
theorem half_add : Add half := by
  refine Add.plus (Add.shr 4) ⟨by decide +kernel, fun a b => ?_⟩
  show tab ((a ^^^ b) &&& 15#32).toNat = tab (a &&& 15#32).toNat ^^^ tab (b &&& 15#32).toNat
  rw [(and_add 15#32).add]
  have ha : BitVec.ofNat 32 (a &&& 15#32).toNat = a &&& 15#32 := by simp
  have hb : BitVec.ofNat 32 (b &&& 15#32).toNat = b &&& 15#32 := by simp
  have := tab_add ⟨_, low4 a⟩ ⟨_, low4 b⟩
  simp only [ha, hb] at this
  exact this
theorem bit_add : Add (fun x : W32 => if x.getLsbD 0 then 3988292384#32 else 0#32) := ⟨by simp, fun a b => by
  simp only [BitVec.getLsbD_xor]
  cases a.getLsbD 0 <;> cases b.getLsbD 0 <;> simp⟩
theorem and_one (c : W32) : (c &&& 1#32 = 1#32) ↔ c.getLsbD 0 = true := by
  constructor
  · intro h
    have : (c &&& 1#32).getLsbD 0 = (1#32).getLsbD 0 := by rw [h]
    simpa [BitVec.getLsbD_and] using this
  · intro h
    apply BitVec.eq_of_getLsbD_eq
    intro j hj
    rw [BitVec.getLsbD_and]
    cases j with
    | zero => rw [h]; rfl
    | succ j => simp
theorem bstep_eq (c : W32) : bstep c = (c >>> 1) ^^^ (if c.getLsbD 0 then 3988292384#32 else 0#32) := by
  unfold bstep
  by_cases h : c.getLsbD 0 = true
  · rw [if_pos ((and_one c).2 h), if_pos h]
  · rw [if_neg (fun e => h ((and_one c).1 e)), if_neg h]
    simp
theorem bstep_add : Add bstep := by
  have : bstep = fun c : W32 => (c >>> 1) ^^^ (if c.getLsbD 0 then 3988292384#32 else 0#32) := funext bstep_eq
  rw [this]
  exact Add.plus (Add.shr 1) bit_add
theorem half_is : half = fun c => bstep (bstep (bstep (bstep c))) :=
  half_add.ext (bstep_add.comp (bstep_add.comp (bstep_add.comp bstep_add))) (by decide +kernel)

def step8 (c : W32) : W32 := half (half c)
theorem step8_add : Add step8 := half_add.comp half_add
def inv8 : W32 → W32 := comb (invCols step8) 0
theorem inv8_left : (fun x => inv8 (step8 x)) = fun x => x := Add.ext ((Add.comb _ _).comp step8_add) Add.id_ (by decide +kernel)
theorem step8_inj {a b : W32} (h : step8 a = step8 b) : a = b := by
  have ha : inv8 (step8 a) = a := congrFun inv8_left a
  have hb : inv8 (step8 b) = b := congrFun inv8_left b
  rw [← ha, ← hb, h]

/-- the register behind these bytes -/
def reg : W32 → List Nat → W32
  | c, [] => c
  | c, b :: r => reg (step8 (c ^^^ BitVec.ofNat 32 b)) r
theorem reg_app : ∀ (l m : List Nat) (c : W32), reg c (l ++ m) = reg (reg c l) m
  | [], _, _ => rfl
  | x :: r, m, c => by simp only [List.cons_append, reg]; exact reg_app r m _
theorem xor_cancel {a b c : W32} (h : a ^^^ c = b ^^^ c) : a = b := by
  have h2 : (a ^^^ c) ^^^ c = (b ^^^ c) ^^^ c := by rw [h]
  rwa [BitVec.xor_assoc, BitVec.xor_assoc, BitVec.xor_self, BitVec.xor_zero, BitVec.xor_zero] at h2
theorem reg_inj : ∀ (l : List Nat) {a b : W32}, reg a l = reg b l → a = b
  | [], _, _, h => h
  | x :: r, a, b, h => xor_cancel (step8_inj (reg_inj r h))
theorem xor_cancel_left {a b c : W32} (h : c ^^^ a = c ^^^ b) : a = b := xor_cancel (c := c) (by rw [BitVec.xor_comm a, BitVec.xor_comm b]; exact h)
/-- one byte that is another one: another register -/
theorem reg_turn {l m : List Nat} {x y : Nat} {c : W32} (hx : x < 256) (hy : y < 256) (h : x ≠ y) : reg c (l ++ x :: m) ≠ reg c (l ++ y :: m) := by
  intro e
  rw [reg_app, reg_app] at e
  simp only [reg] at e
  have e2 := xor_cancel_left (step8_inj (reg_inj m e))
  apply h
  have := congrArg BitVec.toNat e2
  rw [BitVec.toNat_ofNat, BitVec.toNat_ofNat, Nat.mod_eq_of_lt (by omega), Nat.mod_eq_of_lt (by omega)] at this
  exact this
end Go.Proofs.YtjliefglelcooaaDoor.CM

namespace Go.Proofs.YtjliefglelcooaaDoor
open Go.RowKit CM

theorem u32_ofInt (x : BitVec 32) : BitVec.ofInt 32 (x.toNat : Int) = x := by
  rw [BitVec.ofInt_natCast]; apply BitVec.eq_of_toNat_eq; rw [BitVec.toNat_ofNat]; exact Nat.mod_eq_of_lt x.isLt
theorem wrap_toNat (x : BitVec 32) : IntKind.u32.wrap (x.toNat : Int) = (x.toNat : Int) := by
  have h := x.isLt
  rw [IntKind.wrap_u32']
  omega
theorem xor32 (x y : BitVec 32) : bits BinOp.xor IntKind.u32 (x.toNat : Int) (y.toNat : Int) = ((x ^^^ y).toNat : Int) := by
  show IntKind.u32.wrap ((BitVec.ofInt 32 (x.toNat : Int) ^^^ BitVec.ofInt 32 (y.toNat : Int)).toNat : Int) = _
  rw [u32_ofInt, u32_ofInt, wrap_toNat]
theorem and32 (x y : BitVec 32) : bits BinOp.and IntKind.u32 (x.toNat : Int) (y.toNat : Int) = ((x &&& y).toNat : Int) := by
  show IntKind.u32.wrap ((BitVec.ofInt 32 (x.toNat : Int) &&& BitVec.ofInt 32 (y.toNat : Int)).toNat : Int) = _
  rw [u32_ofInt, u32_ofInt, wrap_toNat]
theorem and15 (x : BitVec 32) : bits BinOp.and IntKind.u32 (x.toNat : Int) 15 = ((x &&& 15#32).toNat : Int) := and32 x 15#32
theorem and1_u32 (x : BitVec 32) : bits BinOp.and IntKind.u32 (x.toNat : Int) 1 = ((x &&& 1#32).toNat : Int) := and32 x 1#32
theorem shr4 (x : BitVec 32) : (x.toNat : Int) / 16 = ((x >>> 4).toNat : Int) := by
  rw [BitVec.toNat_ushiftRight, Nat.shiftRight_eq_div_pow]; omega
theorem shr1 (x : BitVec 32) : (x.toNat : Int) / 2 = ((x >>> 1).toNat : Int) := by
  rw [BitVec.toNat_ushiftRight, Nat.shiftRight_eq_div_pow]; omega

/-- the table, in every world that only grew -/
def Table (w : World) : Prop := ∀ i, i < 16 → w.cell? ⟨0, i, none⟩ = some (.int .u32 ((tab i).toNat : Int))
theorem Table.from_ {w w' : World} (h : Table w) (hw : From w w') : Table w' := fun i hi => (hw.cells _ _ (by
  rcases Nat.lt_or_ge 0 w.heap.size with hlt | hge
  · exact hlt
  · have := h 0 (by omega)
    unfold World.cell? at this
    rw [Array.getElem?_eq_none hge] at this
    cases this)).trans (h i hi)

set_option maxHeartbeats 400000 in
theorem half_any (c : BitVec 32) (w : World) (hT : Table w) :
    Calls Tryd.prog 47 #[.int .u32 (c.toNat : Int)] w fun e w' => e = .returned (.int .u32 ((half c).toNat : Int)) ∧ w = w' := by
  have h15 := low4 c
  have hT1 := hT _ h15
  have e1 := and15 c
  have e2 := shr4 c
  have e3 := xor32 (c >>> 4) (tab (c &&& 15#32).toNat)
  rw [← e2] at e3
  have hh : half c = (c >>> 4) ^^^ tab (c &&& 15#32).toNat := rfl
  rw [← hh] at e3
  clear hh hT e2
  generalize (half c).toNat = r at *
  generalize (tab (c &&& 15#32).toNat).toNat = t at *
  generalize (c &&& 15#32).toNat = m at *
  generalize c.toNat = x at *
  have i1 : (0 : Int) ≤ (m : Int) := by omega
  have i2 : (m : Int) < 16 := by omega
  go_enter Tryd.func47, Tryd.ntmps47
  go_wp2
  go_ret
  exact ⟨ret_int e3, rfl⟩

set_option maxHeartbeats 400000 in
/-- the receiver's block -/
theorem take_any (g : Nat) (c : BitVec 32) (b : Nat) (w : World) (hb : b < 256) (hT : Table w) (hg : w.cell? ⟨g, 0, none⟩ = some (.int .u32 (c.toNat : Int))) (hf : w.frozen? ⟨g, 0, none⟩ = false) :
    Calls Tryd.prog 40 #[.pointer (some ⟨g, 0, none⟩), .int .u8 (b : Int)] w fun e w' => e = .returned (.tuple #[]) ∧ w' = w.setCell ⟨g, 0, none⟩ (.int .u32 ((step8 (c ^^^ BitVec.ofNat 32 b)).toNat : Int)) := by
  have e1 := xor32 c (BitVec.ofNat 32 b)
  have hbn : ((BitVec.ofNat 32 b).toNat : Int) = (b : Int) := by rw [BitVec.toNat_ofNat, Nat.mod_eq_of_lt (by omega)]
  rw [hbn] at e1
  have c1 := half_any (c ^^^ BitVec.ofNat 32 b) w hT
  have c2 := half_any (half (c ^^^ BitVec.ofNat 32 b)) w hT
  have hs : step8 (c ^^^ BitVec.ofNat 32 b) = half (half (c ^^^ BitVec.ofNat 32 b)) := rfl
  rw [hs]
  clear hbn hs hT
  generalize (half (half (c ^^^ BitVec.ofNat 32 b))).toNat = r at *
  generalize (half (c ^^^ BitVec.ofNat 32 b)).toNat = q at *
  generalize (c ^^^ BitVec.ofNat 32 b).toNat = p at *
  generalize c.toNat = x at *
  have C1 := Lib.hid c1
  have C2 := Lib.hid c2
  clear c1 c2
  go_enter Tryd.func40, Tryd.ntmps40
  go_wp2_with (first
    | (go_at_call 47; (with_reducible refine C1.out.mono ?_); rintro e w1 ⟨rfl, rfl⟩)
    | (go_at_call 47; (with_reducible refine C2.out.mono ?_); rintro e w1 ⟨rfl, rfl⟩))
  go_end0
  exact ⟨rfl, rfl⟩

def CM.Bytes (l : List Nat) : Prop := ∀ b ∈ l, b < 256
def sumF (s : BitVec 32) (l : List Nat) : BitVec 32 := ~~~(reg (~~~s) l)

theorem not32 (x : BitVec 32) : bits BinOp.xor IntKind.u32 IntKind.u32.max (x.toNat : Int) = ((~~~x).toNat : Int) := by
  have h := xor32 (BitVec.allOnes 32) x
  have e : ((BitVec.allOnes 32).toNat : Int) = IntKind.u32.max := by decide +kernel
  rw [e, BitVec.allOnes_xor] at h
  exact h

def SumRel (w : World) (ns : BitVec 32) (l : List Nat) (i : Value) (wr : World) : Prop :=
  ∃ j : Nat, j ≤ l.length ∧ i = .int .i64 j ∧ From w wr ∧ wr.cell? ⟨w.heap.size, 0, none⟩ = some (.int .u32 ((reg ns (l.take j)).toNat : Int)) ∧ wr.frozen? ⟨w.heap.size, 0, none⟩ = false

theorem sum_next {w wr : World} {ns : BitVec 32} {l : List Nat} {j : Nat} (hlt : j < l.length) (hw : From w wr) {u : Value} (hc : wr.cell? ⟨w.heap.size, 0, none⟩ = some u) (hf : wr.frozen? ⟨w.heap.size, 0, none⟩ = false) :
    SumRel w ns l (.int .i64 ((j : Int) + 1)) (wr.setCell ⟨w.heap.size, 0, none⟩ (.int .u32 ((reg ns (l.take (j + 1))).toNat : Int))) :=
  ⟨j + 1, by omega, by go_num, hw.set_ (Nat.le_refl _) _, World.cell?_setCell_same wr _ _ hc, by rw [World.frozen?_setCell]; exact hf⟩

set_option maxRecDepth 100000 in
set_option maxHeartbeats 400000 in
theorem sum_any (s : BitVec 32) (v : Value) (l : List Nat) (w : World) (hr : Row w v (bytesV l)) (hl : CM.Bytes l) (hlen : l.length ≤ 140737488351232) (hT : Table w) :
    Calls Tryd.prog 32 #[.int .u32 (s.toNat : Int), v] w fun e w' => e = .returned (.int .u32 ((sumF s l).toNat : Int)) ∧ From w w' := by
  obtain ⟨A, cap, rfl, hrow⟩ := row_vals hr
  have hn := not32 s
  have HT := Lib.hid (fun w' (h : From w w') => hT.from_ h)
  have hres : sumF s l = ~~~(reg (~~~s) l) := rfl
  rw [hres]
  clear hres
  generalize ~~~s = ns at *
  have hfin := not32 (reg ns l)
  generalize ~~~(reg ns l) = out at *
  have HF := Lib.hid hfin
  clear hT hr hfin
  go_enter Tryd.func32, Tryd.ntmps32
  go_wp2
  go_loopw [13] (SumRel w ns l) (fun i _ => l.length - (intOf i).toNat)
  case atStart =>
    exact ⟨0, by omega, rfl, From.rfl_.new _, (Blk.new w _ _).cell 0, World.frozen?_alloc_new _ _ _ _⟩
  case round =>
    obtain ⟨j, hj, rfl, hw, hc, hf⟩ := hrel
    by_cases hlt : j < l.length
    · obtain ⟨b, o, rfl, hb, hcell⟩ := hrow (by omega)
      have d1 := (hw.cells b (o + j) hb).trans (hcell j hlt)
      have i1 : (0 : Int) ≤ (j : Int) := by omega
      have i2 : (j : Int) < (l.length : Int) := by omega
      have hx : l[j] < 256 := hl _ (List.getElem_mem hlt)
      have hsn : reg ns (l.take (j + 1)) = step8 (reg ns (l.take j) ^^^ BitVec.ofNat 32 l[j]) := by
        rw [List.take_succ_eq_append_getElem hlt, reg_app]
        rfl
      have ct := take_any w.heap.size (reg ns (l.take j)) l[j] wr hx (HT.out wr hw) hc hf
      rw [← hsn] at ct
      have CT := Lib.hid ct
      clear ct hsn hcell hrow hl hn
      generalize l[j] = x at *
      go_wp2_with (go_at_call 40; (with_reducible refine CT.out.mono ?_); rintro e w1 ⟨rfl, rfl⟩)
      go_roundw
      case rel => exact sum_next hlt hw hc hf
      case measure => simp [intOf]; omega
    · obtain hjl : j = l.length := by omega
      rw [hjl, List.take_length] at hc
      clear hj hjl
      generalize (reg ns l).toNat = r at *
      go_wp2
      go_ret
      exact ⟨ret_int HF.out, hw⟩

def b8 (c : BitVec 32) : Nat → BitVec 32
  | 0 => c
  | k + 1 => bstep (b8 c k)
theorem b8_eight (c : BitVec 32) : b8 c 8 = step8 c := by
  have h := half_is
  simp only [b8, step8, h]

theorem bstep_one {c : BitVec 32} (h : (c &&& 1#32).toNat = 1) : bstep c = (c >>> 1) ^^^ 3988292384#32 := by
  unfold bstep
  rw [if_pos (BitVec.eq_of_toNat_eq (by rw [h]; rfl))]
theorem bstep_zero {c : BitVec 32} (h : (c &&& 1#32).toNat ≠ 1) : bstep c = c >>> 1 := by
  unfold bstep
  rw [if_neg (fun e => h (by rw [e]; rfl))]

def RefRel (w : World) (ns : BitVec 32) (l : List Nat) (c i : Value) (wr : World) : Prop :=
  ∃ j : Nat, j ≤ l.length ∧ i = .int .i64 j ∧ From w wr ∧ c = .int .u32 ((reg ns (l.take j)).toNat : Int)
def RefRel2 (w : World) (c0 : BitVec 32) (c k : Value) (wr : World) : Prop :=
  ∃ q : Nat, q ≤ 8 ∧ k = .int .i64 q ∧ From w wr ∧ c = .int .u32 ((b8 c0 q).toNat : Int)

end Go.Proofs.YtjliefglelcooaaDoor
