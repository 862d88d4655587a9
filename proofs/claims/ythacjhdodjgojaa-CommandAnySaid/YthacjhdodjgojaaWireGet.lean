/- Walks of wire.Get and its reference. -/
import Derived.Test.YthacjhdodjgojaaWireMath2
import Derived.Laws.IdiomStrings
namespace Go.Proofs.Ythacjhdodjgojaa
open Go.RowKit

/-- string(b), by rows -/
theorem conv_str {w : World} {src dst e : TypeId} (hs : Try.prog.underlying src = some (.slice e)) (he : Try.prog.underlying e = some (.int .u8)) (hd : Try.prog.underlying dst = some .string)
    {v : Value} {l : List Nat} (hl : ∀ b ∈ l, b < 256) (hr : RowC w v (bytesV l)) : (convert src dst v).run Try.prog w = .ok (.string (strOf l)) w := by
  obtain ⟨A, cap, rfl, _, _, hp⟩ := hr.parts
  rw [bytesV_length] at hp ⊢
  cases A with
  | none =>
    have h0 : l = [] := by
      cases l with
      | nil => rfl
      | cons x t =>
        obtain ⟨b, o, hA, _⟩ := hp (by simp)
        cases hA
    subst h0
    rw [run_convert_bytes_string w src dst e none _ cap hs he hd]
    rfl
  | some a =>
    have hm : (l.map UInt8.ofNat).length = l.length := by simp
    have := run_convert_bytes_back (P := Try.prog) w src dst e a cap (l.map UInt8.ofNat) hs he hd (fun j hj => by
      have hj' : j < l.length := by simpa using hj
      obtain ⟨b, o, hA, _, hc⟩ := hp (by omega)
      simp only [Option.some.injEq] at hA
      subst hA
      rw [Go.WideShapes.add_plain]
      have hb := hl _ (List.getElem_mem hj')
      rw [hc j (.int .u8 (l[j] : Nat)) (by simp [bytesV, hj'])]
      simp only [List.getElem_map, UInt8.toNat_ofNat']
      congr 2
      omega)
    rw [hm] at this
    exact this
theorem str_info : (Try.prog.info? 9).map (fun i => (i.zero, i.size, i.bytes)) = some (some (.string ⟨#[]⟩), 1, 16) := by kernel_rfl
def GotB (w w' : World) (e : Ending) : Option (List ByteArray) → Prop
  | none => e = .returned (.tuple #[.slice none 0 0, .int .i64 1])
  | some ss => ∃ v', e = .returned (.tuple #[v', .int .i64 0]) ∧ w'.ownsRow w.heap.size 9 1 v' ss.length (ss.map .string)
/-- the loop: so many texts read, so many bytes left -/
def GetRel (w : World) (c : Nat) (whole : Option (List ByteArray × List Nat)) (vb u i : Value) (wr : World) : Prop :=
  ∃ (j : Nat) (ss : List ByteArray) (rest : List Nat), i = .int .i64 (j : Nat) ∧ j ≤ c ∧ RowC w vb (bytesV rest) ∧ (∀ b ∈ rest, b < 256) ∧ rest.length ≤ 1048576 ∧
    wr.ownsRow w.heap.size 9 1 u j (ss.map .string) ∧ whole = (getStrs (c - j) rest).map (fun x => (ss ++ x.1, x.2)) ∧ From w wr

set_option maxRecDepth 100000 in
set_option maxHeartbeats 1000000 in
theorem get_any (v : Value) (l : List Nat) (hl : ∀ b ∈ l, b < 256) (w : World) (hr : RowC w v (bytesV l)) :
    Calls Try.prog 11 #[v] w fun e w' => GotB w w' e (getB l) ∧ From w w' := by
  obtain ⟨A, cap, rfl, hc1, hc2, _⟩ := hr.parts
  rw [bytesV_length] at hc1 hr ⊢
  obtain ⟨i0, hi0, hz0, hz1, hz2⟩ := info_parts str_info
  by_cases hbig : 1048576 < l.length
  · have hd : decide ((1048576 : Int) < (l.length : Int)) = true := by simp; omega
    have hn : getB l = none := by unfold getB; rw [if_pos hbig]
    have HN := Lib.hid hn
    clear hn
    go_enter Try.func11, Try.ntmps11
    go_wp2
    go_ret2
    rw [HN.out]
    exact ⟨rfl, From.rfl_⟩
  have hd : decide ((1048576 : Int) < (l.length : Int)) = false := by simp; omega
  have hget := getnum_any _ l hl w hr
  rcases hg : getNum l with _ | ⟨c, k⟩
  · rw [hg] at hget
    simp only [gotV] at hget
    have hn : getB l = none := by unfold getB; rw [if_neg hbig, hg]
    have HN := Lib.hid hn
    have HG := Lib.hid hget
    clear hn hg hget
    go_enter Try.func11, Try.ntmps11
    go_wp2_with (go_at_call 12; (with_reducible refine HG.out.mono ?_); rintro e w1 ⟨rfl, rfl⟩)
    go_ret2
    rw [HN.out]
    exact ⟨rfl, From.rfl_⟩
  rw [hg] at hget
  simp only [gotV] at hget
  have hk := getNum_bound hl hg
  by_cases hcl : l.length < c
  · have hd2 : decide ((l.length : Int) < (c : Int)) = true := by simp; omega
    have hn : getB l = none := by unfold getB; rw [if_neg hbig, hg]; simp only; rw [if_pos hcl]
    have HN := Lib.hid hn
    have HG := Lib.hid hget
    clear hn hg hget
    go_enter Try.func11, Try.ntmps11
    go_wp2_with (go_at_call 12; (with_reducible refine HG.out.mono ?_); rintro e w1 ⟨rfl, rfl⟩)
    go_ret2
    rw [HN.out]
    exact ⟨rfl, From.rfl_⟩
  have hd2 : decide ((l.length : Int) < (c : Int)) = false := by simp; omega
  have hB : getB l = match getStrs c (l.drop k) with | some (ss, []) => some ss | _ => none := by unfold getB; rw [if_neg hbig, hg]; simp only; rw [if_neg hcl]; rfl
  have hrest := hr.rest (k := k) (by rw [bytesV_length]; omega)
  have hdrop : (bytesV l).drop k = bytesV (l.drop k) := by simp [bytesV, List.map_drop]
  rw [hdrop] at hrest
  have hra : (if cap = k then A else Option.map (fun x => x.add k) A) = restA A cap k := rfl
  have j1 : (0 : Int) ≤ (k : Int) := by omega
  have j2 : (k : Int) ≤ (l.length : Int) := by omega
  have j3 : (k : Int) ≤ (cap : Int) := by omega
  have HB := Lib.hid hB
  have HG := Lib.hid hget
  clear hB hg hget
  have hck : c ≤ 1048576 := by omega
  go_enter Try.func11, Try.ntmps11
  go_wp2_with (first
    | (go_at_call 12; (with_reducible refine HG.out.mono ?_); rintro e w1 ⟨rfl, rfl⟩)
    | (refine wpList_make_own (P := Try.prog) _ rfl _ _ _ rfl w.heap.size 9 i0 _ 1 Try.underlying37 hi0 hz0 hz1 .i64 .i64 _ c rfl rfl rfl (by rw [hz2]; omega) (by unfold maxLen; omega) (Nat.le_refl _) ?_; intro w1 hown1 hg1))
  have hw1 : From w w1 := From.rfl_.grew hg1 (fun k hk => by cases hk)
  go_loopw [0, 7, 34] (GetRel w c (getStrs c (l.drop k))) (fun _ _ i _ => c - (intOf i).toNat)
  case atStart => exact ⟨0, [], l.drop k, rfl, by omega, hrest, fun b hb => hl b (List.mem_of_mem_drop hb), by rw [List.length_drop]; omega, by simpa using hown1, by simp, hw1⟩
  case round =>
    rename_i vb u _ _
    obtain ⟨j, ss, rest, rfl, hj, hrow, hrb, hrl, hown, hwhole, hw⟩ := hrel
    clear hrest hra hown1 hg1 hr
    obtain ⟨A2, cap2, rfl, hcc1, hcc2, _⟩ := hrow.parts
    rw [bytesV_length] at hcc1 hrow ⊢
    have hgetr := fun w' (h : From w w') => getnum_any _ rest hrb w' (hrow.from_ h)
    by_cases hlt : j < c
    · have hd3 : decide ((j : Int) < (c : Int)) = true := by simp; omega
      obtain ⟨d, hd4⟩ : ∃ d, c - j = d + 1 := ⟨c - j - 1, by omega⟩
      rw [hd4] at hwhole
      simp only [getStrs] at hwhole
      rcases hgr : getNum rest with _ | ⟨n, q⟩
      · rw [hgr] at hgetr hwhole
        simp only [gotV] at hgetr
        have hB : getB l = none := by rw [HB.out, hwhole]; rfl
        have H1 := Lib.hid hgetr
        have HN := Lib.hid hB
        clear hgetr hgr hwhole hown hB
        go_wp2_with (go_at_call 12; (with_reducible refine (H1.out _ hw).mono ?_); rintro e w2 ⟨rfl, rfl⟩)
        go_ret2
        rw [HN.out]
        exact ⟨rfl, hw⟩
      have hq := getNum_bound hrb hgr
      rw [hgr] at hgetr hwhole
      simp only [gotV] at hgetr hwhole
      by_cases hbad : rest.length - q < n
      · rw [if_pos hbad] at hwhole
        have hd5 : decide ((rest.length : Int) - (q : Int) < (n : Int)) = true := by simp; omega
        have hB : getB l = none := by rw [HB.out, hwhole]; rfl
        have H1 := Lib.hid hgetr
        have HN := Lib.hid hB
        clear hgetr hgr hwhole hown hB
        go_wp2_with (go_at_call 12; (with_reducible refine (H1.out _ hw).mono ?_); rintro e w2 ⟨rfl, rfl⟩)
        go_ret2
        rw [HN.out]
        exact ⟨rfl, hw⟩
      · rw [if_neg hbad] at hwhole
        have hd5 : decide ((rest.length : Int) - (q : Int) < (n : Int)) = false := by simp; omega
        obtain ⟨p, hp⟩ : ∃ p, p = q + n := ⟨_, rfl⟩
        have hsum : (q : Int) + (n : Int) = (p : Int) := by omega
        have hpl : p ≤ rest.length := by omega
        have hqp : q ≤ p := by omega
        have hcut := (hrow.cut (k := p) (by rw [bytesV_length]; omega)).rest (k := q) (by rw [List.length_take, bytesV_length]; omega)
        have hpart : ((bytesV rest).take p).drop q = bytesV ((rest.drop q).take n) := by
          have : p - q = n := by omega
          simp only [bytesV]
          rw [List.drop_take, this, List.map_take, List.map_drop]
        have hsub : p - q = n := by omega
        rw [hpart, hsub] at hcut
        have hconv := fun w' (h : From w w') => conv_str Try.underlying23 Try.underlying5 Try.underlying9 (fun b hb => hrb b (List.mem_of_mem_drop (List.mem_of_mem_take hb))) (hcut.from_ h)
        have hnext := hrow.rest (k := p) (by rw [bytesV_length]; omega)
        have hnd : (bytesV rest).drop p = bytesV (rest.drop p) := by simp [bytesV, List.map_drop]
        rw [hnd] at hnext
        have hra1 : (if cap2 = q then A2 else Option.map (fun x => x.add q) A2) = restA A2 cap2 q := rfl
        have hra2 : (if cap2 = p then A2 else Option.map (fun x => x.add p) A2) = restA A2 cap2 p := rfl
        have k1 : (0 : Int) ≤ (q : Int) := by omega
        have k2 : (q : Int) ≤ (p : Int) := by omega
        have k3 : (p : Int) ≤ (cap2 : Int) := by omega
        have k4 : (p : Int) ≤ (rest.length : Int) := by omega
        have H1 := Lib.hid hgetr
        have HW := Lib.hid (And.intro hwhole hp)
        have hr1 : (j + 1) * 16 ≤ 140737488355328 := by omega
        have hr2 : j + 1 ≤ maxLen := by unfold maxLen; omega
        have HO := Lib.hid hown
        clear hgetr hgr hwhole hp hown hpart hcut hnd
        go_wp2_with (first
          | (go_at_call 12; (with_reducible refine (H1.out _ hw).mono ?_); rintro e w2 ⟨rfl, rfl⟩)
          | (at_builtin; refine wpList_push w rfl (.tmp 52) (.tmp 60) 37 rfl 9 i0 _ 16 Try.underlying37 hi0 hz0 hz1 hz2 rfl _ _ _ rfl HO.out hw rfl rfl hr1 hr2 ?_; intro v3 w3 hown3 hw3))
        go_roundw
        case rel =>
          refine ⟨j + 1, ss ++ [strOf ((rest.drop q).take n)], rest.drop p, by go_num, by omega, hnext, fun b hb => hrb b (List.mem_of_mem_drop hb), by rw [List.length_drop]; omega, ?_, ?_, hw3⟩
          · rw [List.map_append]
            exact hown3
          · rw [HW.out.1, HW.out.2, show c - (j + 1) = d by omega]
            cases getStrs d (List.drop (q + n) rest) <;> simp
        case measure => simp [intOf]; omega
    · have hd3 : decide ((j : Int) < (c : Int)) = false := by simp; omega
      rw [show c - j = 0 by omega] at hwhole
      simp only [getStrs, Option.map_some, List.append_nil] at hwhole
      have hsl : ss.length = j := by simpa using hown.1
      have HW := Lib.hid (And.intro hwhole hsl)
      have HO := Lib.hid hown
      clear hwhole hown hgetr hsl
      by_cases hend : 0 < rest.length
      · have hd6 : decide ((0 : Int) < (rest.length : Int)) = true := by simp; omega
        have hB : getB l = none := by
          rw [HB.out, HW.out.1]
          cases rest with
          | nil => simp at hend
          | cons x t => rfl
        have HN := Lib.hid hB
        clear hB
        go_wp2
        go_ret2
        rw [HN.out]
        exact ⟨rfl, hw⟩
      · have hd6 : decide ((0 : Int) < (rest.length : Int)) = false := decide_eq_false (by omega)
        have hB : getB l = some ss := by
          rw [HB.out, HW.out.1]
          cases rest with
          | nil => rfl
          | cons x t => simp at hend
        have HN := Lib.hid hB
        clear hB
        go_wp2
        go_ret2
        rw [HN.out]
        exact ⟨⟨_, rfl, by rw [HW.out.2]; exact HO.out⟩, hw⟩

end Go.Proofs.Ythacjhdodjgojaa
