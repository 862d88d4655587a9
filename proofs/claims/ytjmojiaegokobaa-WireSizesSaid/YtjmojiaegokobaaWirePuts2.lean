/- The reference's reading of texts, and the overwriting of answers. -/
import Derived.Test.YtjmojiaegokobaaWirePuts
namespace Go.Proofs.Ytjmojiaegokobaa
open Go.RowKit

theorem restA_lt {A : Option Addr} {cap k : Nat} (h : ¬ cap = k) : restA A cap k = Option.map (fun x => x.add k) A := if_neg h
def RefGotB (w w' : World) (e : Ending) : Option (List ByteArray) → Prop
  | none => ∃ v', e = .returned (.tuple #[v', .bool false])
  | some ss => ∃ v', e = .returned (.tuple #[v', .bool true]) ∧ w'.ownsRow w.heap.size 9 1 v' ss.length (ss.map .string)
def RefGetRel (w : World) (l : List Nat) (c : Nat) (whole : Option (List ByteArray × List Nat)) (at_ u i : Value) (wr : World) : Prop :=
  ∃ (j p : Nat) (ss : List ByteArray), i = .int .i64 (j : Nat) ∧ at_ = .int .i64 (p : Nat) ∧ j ≤ c ∧ p ≤ l.length ∧
    wr.ownsRow w.heap.size 9 1 u j (ss.map .string) ∧ whole = (getStrs (c - j) (l.drop p)).map (fun x => (ss ++ x.1, x.2)) ∧ From w wr

set_option maxRecDepth 100000 in
set_option maxHeartbeats 1000000 in
theorem refget_any (v : Value) (l : List Nat) (hl : ∀ b ∈ l, b < 256) (w : World) (hr : RowC w v (bytesV l)) (hlen : l.length ≤ 1048576) :
    Calls Try.prog 20 #[v] w fun e w' => RefGotB w w' e (getB l) ∧ From w w' := by
  obtain ⟨A, cap, rfl, hc1, hc2, _⟩ := hr.parts
  rw [bytesV_length] at hc1 hr ⊢
  obtain ⟨i0, hi0, hz0, hz1, hz2⟩ := info_parts str_info
  have hd : decide ((1048576 : Int) < (l.length : Int)) = false := by simp; omega
  have hget := refgetnum_any _ l hl w hr (by omega)
  rcases hg : getNum l with _ | ⟨c, k⟩
  · rw [hg] at hget
    simp only [refGotV] at hget
    have hn : getB l = none := by unfold getB; rw [if_neg (by omega), hg]
    have HN := Lib.hid hn
    have HG := Lib.hid hget
    clear hn hg hget
    go_enter Try.func20, Try.ntmps20
    go_wp2_with (go_at_call 14; (with_reducible refine HG.out.mono ?_); rintro e w1 ⟨rfl, hb1⟩)
    go_ret2
    rw [HN.out]
    exact ⟨⟨_, rfl⟩, hb1⟩
  rw [hg] at hget
  simp only [refGotV] at hget
  have hk := getNum_bound hl hg
  have hk0 : ((k : Int) == 0) = false := by simp; omega
  by_cases hcl : l.length < c
  · have hd2 : decide ((l.length : Int) < (c : Int)) = true := by simp; omega
    have hn : getB l = none := by unfold getB; rw [if_neg (by omega), hg]; simp only; rw [if_pos hcl]
    have HN := Lib.hid hn
    have HG := Lib.hid hget
    clear hn hg hget
    go_enter Try.func20, Try.ntmps20
    go_wp2_with (go_at_call 14; (with_reducible refine HG.out.mono ?_); rintro e w1 ⟨rfl, hb1⟩)
    go_ret2
    rw [HN.out]
    exact ⟨⟨_, rfl⟩, hb1⟩
  have hd2 : decide ((l.length : Int) < (c : Int)) = false := by simp; omega
  have hB : getB l = match getStrs c (l.drop k) with | some (ss, []) => some ss | _ => none := by unfold getB; rw [if_neg (by omega), hg]; simp only; rw [if_neg hcl]; rfl
  have HB := Lib.hid hB
  have HG := Lib.hid hget
  clear hB hg hget
  have hck : c ≤ 1048576 := by omega
  go_enter Try.func20, Try.ntmps20
  go_wp2_with (first
    | (go_at_call 14; (with_reducible refine HG.out.mono ?_); rintro e w1 ⟨rfl, hb1⟩))
  go_loopw [5, 6, 7] (RefGetRel w l c (getStrs c (l.drop k))) (fun _ _ i _ => c - (intOf i).toNat)
  case atStart => exact ⟨0, k, [], rfl, rfl, by omega, by omega, World.ownsRow_nil _ _ _ _, by simp, hb1⟩
  case round =>
    obtain ⟨j, p, ss, rfl, rfl, hj, hp, hown, hwhole, hw⟩ := hrel
    clear hb1
    by_cases hlt : j < c
    · have hd3 : decide ((j : Int) < (c : Int)) = true := by simp; omega
      obtain ⟨d, hd4⟩ : ∃ d, c - j = d + 1 := ⟨c - j - 1, by omega⟩
      rw [hd4] at hwhole
      simp only [getStrs] at hwhole
      have hrest := hr.rest (k := p) (by rw [bytesV_length]; omega)
      have hdrop : (bytesV l).drop p = bytesV (l.drop p) := by simp [bytesV, List.map_drop]
      rw [hdrop] at hrest
      have hrb : ∀ b ∈ l.drop p, b < 256 := fun b hb => hl b (List.mem_of_mem_drop hb)
      have hgetr := fun w' (h : From w w') => refgetnum_any _ (l.drop p) hrb w' (hrest.from_ h) (by rw [List.length_drop]; omega)
      have hra : (if cap = p then A else Option.map (fun x => x.add p) A) = restA A cap p := rfl
      have j1 : (0 : Int) ≤ (p : Int) := by omega
      have j2 : (p : Int) ≤ (l.length : Int) := by omega
      have j3 : (p : Int) ≤ (cap : Int) := by omega
      have hdl : (l.drop p).length = l.length - p := List.length_drop
      rcases hgr : getNum (l.drop p) with _ | ⟨n, q⟩
      · rw [hgr] at hgetr hwhole
        simp only [refGotV] at hgetr
        have hB : getB l = none := by rw [HB.out, hwhole]; rfl
        have H1 := Lib.hid hgetr
        have HN := Lib.hid hB
        clear hgetr hgr hwhole hown hB hrest hdrop hrb
        go_wp2_with (go_at_call 14; (with_reducible refine (H1.out _ hw).mono ?_); rintro e w2 ⟨rfl, hb2⟩)
        go_ret2
        rw [HN.out]
        exact ⟨⟨_, rfl⟩, hw.next hb2⟩
      have hq := getNum_bound hrb hgr
      rw [hgr] at hgetr hwhole
      simp only [refGotV] at hgetr hwhole
      have hq0 : ((q : Int) == 0) = false := by simp; omega
      rw [restA_lt (by omega)] at hgetr
      by_cases hbad : (l.drop p).length - q < n
      · rw [if_pos hbad] at hwhole
        have hd5 : decide ((l.length : Int) - (p : Int) - (q : Int) < (n : Int)) = true := by simp; omega
        have hB : getB l = none := by rw [HB.out, hwhole]; rfl
        have H1 := Lib.hid hgetr
        have HN := Lib.hid hB
        clear hgetr hgr hwhole hown hB hrest hdrop hrb hbad
        go_wp2_with (go_at_call 14; (with_reducible refine (H1.out _ hw).mono ?_); rintro e w2 ⟨rfl, hb2⟩)
        go_ret2
        rw [HN.out]
        exact ⟨⟨_, rfl⟩, hw.next hb2⟩
      · rw [if_neg hbad] at hwhole
        have hd5 : decide ((l.length : Int) - (p : Int) - (q : Int) < (n : Int)) = false := by simp; omega
        obtain ⟨p1, hp1⟩ : ∃ p1, p1 = p + q := ⟨_, rfl⟩
        obtain ⟨p2, hp2⟩ : ∃ p2, p2 = p + q + n := ⟨_, rfl⟩
        have hs1 : (p : Int) + (q : Int) = (p1 : Int) := by omega
        have hs2 : (p1 : Int) + (n : Int) = (p2 : Int) := by omega
        have hpl : p2 ≤ l.length := by omega
        have hqp : p1 ≤ p2 := by omega
        have hcut := (hr.cut (k := p2) (by rw [bytesV_length]; omega)).rest (k := p1) (by rw [List.length_take, bytesV_length]; omega)
        have hpart : ((bytesV l).take p2).drop p1 = bytesV (((l.drop p).drop q).take n) := by
          have h1 : p2 - p1 = n := by omega
          simp only [bytesV]
          rw [List.drop_take, h1, List.map_take, List.map_drop, List.map_drop, List.drop_drop, hp1]
        have hsub : p2 - p1 = n := by omega
        rw [hpart, hsub] at hcut
        have hconv := fun w' (h : From w w') => conv_str Try.underlying25 Try.underlying5 Try.underlying9 (fun b hb => hrb b (List.mem_of_mem_drop (List.mem_of_mem_take hb))) (hcut.from_ h)
        have hra1 : (if cap = p1 then A else Option.map (fun x => x.add p1) A) = restA A cap p1 := rfl
        have k1 : (0 : Int) ≤ (p1 : Int) := by omega
        have k2 : (p1 : Int) ≤ (p2 : Int) := by omega
        have k3 : (p2 : Int) ≤ (cap : Int) := by omega
        have k4 : (p2 : Int) ≤ (l.length : Int) := by omega
        have H1 := Lib.hid hgetr
        have HW := Lib.hid (And.intro hwhole hp2)
        have hr1 : (j + 1) * 16 ≤ 140737488355328 := by omega
        have hr2 : j + 1 ≤ maxLen := by unfold maxLen; omega
        have HO := Lib.hid hown
        clear hgetr hgr hwhole hp1 hp2 hown hpart hcut hrest hdrop hrb hbad
        go_wp2_with (first
          | (go_at_call 14; (with_reducible refine (H1.out _ hw).mono ?_); rintro e w2 ⟨rfl, hb2⟩; have hw2 := From.next (a := w) hw hb2; have HO2 := Lib.hid (HO.out.kept_from hb2))
          | (at_builtin; refine wpList_push w rfl (.tmp 50) (.tmp 62) 24 rfl 9 i0 _ 16 Try.underlying24 hi0 hz0 hz1 hz2 rfl _ _ _ rfl HO2.out hw2 rfl rfl hr1 hr2 ?_; intro v3 w3 hown3 hw3))
        go_roundw
        case rel =>
          refine ⟨j + 1, p2, ss ++ [strOf (((l.drop p).drop q).take n)], by go_num, rfl, by omega, hpl, ?_, ?_, hw3⟩
          · rw [List.map_append, List.drop_drop]
            exact hown3
          · rw [HW.out.1, HW.out.2, show c - (j + 1) = d by omega, List.drop_drop, ← Nat.add_assoc]
            cases getStrs d (List.drop (p + q + n) l) <;> simp
        case measure => simp [intOf]; omega
    · have hd3 : decide ((j : Int) < (c : Int)) = false := by simp; omega
      rw [show c - j = 0 by omega] at hwhole
      simp only [getStrs, Option.map_some, List.append_nil] at hwhole
      have hsl : ss.length = j := by simpa using hown.1
      have HW := Lib.hid (And.intro hwhole hsl)
      have HO := Lib.hid hown
      clear hwhole hown hsl
      by_cases hend : p = l.length
      · have hd6 : ((p : Int) == (l.length : Int)) = true := by simp; omega
        have hB : getB l = some ss := by
          rw [HB.out, HW.out.1, hend, List.drop_length]
        have HN := Lib.hid hB
        clear hB hend
        go_wp2
        go_ret2
        rw [HN.out]
        exact ⟨⟨_, rfl, by rw [HW.out.2]; exact HO.out⟩, hw⟩
      · have hd6 : ((p : Int) == (l.length : Int)) = false := by simp; omega
        have hB : getB l = none := by
          rw [HB.out, HW.out.1]
          cases hx : l.drop p with
          | nil =>
            have := List.length_drop (i := p) (l := l)
            rw [hx] at this
            simp at this
            omega
          | cons x t => rfl
        have HN := Lib.hid hB
        clear hB
        go_wp2
        go_ret2
        rw [HN.out]
        exact ⟨⟨_, rfl⟩, hw⟩
/-- an answer is written over: lecternlaw0.Bytes -/
theorem spoilB_info : (Try.prog.info? 5).map (fun i => (i.zero, i.size, i.bytes)) = some (some (.int .u8 0), 1, 1) := by kernel_rfl

set_option maxRecDepth 100000 in
set_option maxHeartbeats 1000000 in
theorem spoilB_any (a : World) (v : Value) (n : Nat) (xs : List Int) (w : World) (hown : w.ownsRow a.heap.size 5 1 v n (xs.map fun (x : Int) => .int .u8 x)) (hw : From a w) (hlen : n ≤ 1000000000000) :
    Calls Try.prog 18 #[v] w fun e w' => e = .returned (.tuple #[]) ∧ From a w' := by
  obtain ⟨i0, hi0, hz0, hz1, hz2⟩ := info_parts spoilB_info
  obtain ⟨A, cap, rfl⟩ := own_form hown
  go_enter Try.func18, Try.ntmps18
  go_wp2
  go_loopw [2] (fun i wr => ∃ (j : Nat) (ys : List Int), j ≤ n ∧ i = .int .i64 j ∧ wr.ownsRow a.heap.size 5 1 (.slice A n cap) n (ys.map fun (x : Int) => .int .u8 x) ∧ From a wr) (fun i _ => n - (intOf i).toNat)
  case atStart => exact ⟨0, xs, by omega, rfl, hown, hw⟩
  case round =>
    obtain ⟨j, ys, hj, rfl, ho, hwr⟩ := hrel
    clear hown
    have hlen2 : ys.length = n := by simpa using ho.1
    by_cases hlt : j < n
    · obtain ⟨g, rfl, hg⟩ : ∃ g, A = some ⟨g, 0, none⟩ ∧ a.heap.size ≤ g := by
        rcases ho.2 with ⟨h', _⟩ | ⟨g, cap', cur, h', hg, _⟩
        · simp at h'; omega
        · simp only [Value.slice.injEq] at h'
          exact ⟨g, h'.1, hg⟩
      have d1 : wr.cell? ⟨g, j, none⟩ = some (.int .u8 ys[j]) := by
        rw [ho.cellAt j (by omega)]
        simp [hlen2, hlt]
      have d2 := ho.frozenAt j
      have i1 : (0 : Int) ≤ (j : Int) := by omega
      have i2 : (j : Int) < (n : Int) := by omega
      have hset := fun u => (ho.stored j (.int .u8 u)).1
      have hset2 : ∀ u, (wr.setCell ⟨g, j, none⟩ (.int .u8 u)).ownsRow a.heap.size 5 1 (.slice (some ⟨g, 0, none⟩) n cap) n ((ys.set j u).map fun (x : Int) => .int .u8 x) := fun u => by
        have h := hset u
        rw [List.map_set]
        exact h
      have HS := Lib.hid hset2
      clear hset hset2 ho
      generalize ys[j] = y at *
      go_wp2
      go_roundw
      case rel => exact ⟨j + 1, _, by omega, by go_num, HS.out _, From.set_ hwr hg _⟩
      case measure => simp [intOf]; omega
    · have hr1 : (n + 1) * 1 ≤ 140737488355328 := by omega
      have hr2 : n + 1 ≤ maxLen := by unfold maxLen; omega
      have HO := Lib.hid ho
      clear ho
      go_wp2_with (at_builtin; refine wpList_push a rfl (.tmp 17) (.tmp 18) 25 rfl 5 i0 _ 1 Try.underlying25 hi0 hz0 hz1 hz2 rfl _ _ _ rfl HO.out hwr rfl rfl hr1 hr2 ?_; intro v1 w1 hown1 hw1)
      go_end0
      exact ⟨rfl, hw1⟩

end Go.Proofs.Ytjmojiaegokobaa
