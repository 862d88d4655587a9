/- Walks of package ints: Bytes. -/
import Derived.Test.YtgnmmifolhoaeaaIntsNew2
namespace Go.Proofs.Ytgnmmifolhoaeaa
open Go.RowKit

def byteCnt (W n : Nat) : Nat := (W * n + 7) / 8
def bytesW (ws : List Nat) (bc : Nat) : List Nat := (List.range bc).map fun j => ws.getD (j / 8) 0 / 2 ^ (j % 8 * 8) % 256
theorem u8_info : (Try.prog.info? 5).map (fun i => (i.zero, i.size, i.bytes)) = some (some (.int .u8 0), 1, 1) := by kernel_rfl
theorem bc_facts {p m : Nat} (hp : p ≤ 8388608) (hm : m = (p + 7) / 8) : wrap64 (p : Int) = (p : Int) ∧ (p : Int) + 7 = ((p + 7 : Nat) : Int) ∧ ((p + 7 : Nat) : Int).tdiv 8 = (m : Int) ∧ ((p + 7 : Nat) : Int) / 8 = (m : Int) ∧ wrap64 (m : Int) = (m : Int) ∧ m ≤ 1048577 := by
  refine ⟨wrap64_nat p (by omega), by omega, ?_, ?_, wrap64_nat m (by omega), by omega⟩
  · rw [hm]; rfl
  · rw [hm]; rfl
set_option maxRecDepth 100000 in
set_option maxHeartbeats 400000 in
theorem byteCount_any (W n : Nat) (w : World) (hW : W ≤ 64) (hn : n ≤ 131072) :
    Calls Try.prog 28 #[.int .i64 W, .int .i64 n] w fun e w' => e = .returned (.int .i64 (byteCnt W n : Nat)) ∧ w' = w := by
  obtain ⟨hp1, -⟩ := wordCount_small hW hn
  obtain ⟨p, hp⟩ : ∃ p, p = W * n := ⟨_, rfl⟩
  have q1 := mul_nat W n p hp
  rw [← hp] at hp1
  have hm : byteCnt W n = (p + 7) / 8 := by unfold byteCnt; rw [hp]
  generalize byteCnt W n = m at *
  obtain ⟨q2, q3, q4, q5, q6, q7⟩ := bc_facts hp1 hm
  have hp9 : p + 7 ≤ 9000000 := by clear hm hp q2 q3 q4 q5 q6; omega
  clear hp hm
  generalize p + 7 = p63 at *
  go_enter Try.func28, Try.ntmps28
  go_wp2
  go_ret
  exact ⟨rfl, rfl⟩

theorem fill_step {L : List Nat} {j : Nat} (h : j < L.length) : (L.take j ++ List.replicate (L.length - j) 0).set j L[j] = L.take (j + 1) ++ List.replicate (L.length - (j + 1)) 0 := by
  have hl : (L.take j).length = j := by rw [List.length_take]; omega
  rw [List.set_append_right _ _ (by omega), hl, Nat.sub_self, List.take_succ_eq_append_getElem h, List.append_assoc]
  congr 1
  obtain ⟨d, hd⟩ : ∃ d, L.length - j = d + 1 := ⟨L.length - j - 1, by omega⟩
  rw [hd, show L.length - (j + 1) = d by omega, List.replicate_succ]
  rfl
theorem take_len {L : List Nat} {j : Nat} (h : j < L.length) : (L.take j).length = j := by rw [List.length_take]; omega
theorem rep_pos {L : List Nat} {j : Nat} (h : j < L.length) : 0 < L.length - j := by omega
theorem wrap_succ (j : Nat) (h : j ≤ 1048577) : wrap64 ((j : Int) + 1) = (j : Int) + 1 := by
  unfold wrap64
  omega
theorem meas_step {bc j : Nat} (h : j < bc) : bc - (intOf (.int .i64 ((j : Int) + 1))).toNat < bc - (intOf (.int .i64 (j : Int))).toNat := by
  simp [intOf]
  omega
theorem byte_ix {p j m L : Nat} (hj : j < m) (hm : m = (p + 7) / 8) (hL : L = (p + 63) / 64) : j / 8 < L := by omega
theorem byte_facts (j : Nat) (hj : j ≤ 1048577) : (j : Int).tdiv 8 = ((j / 8 : Nat) : Int) ∧ (j : Int) / 8 = ((j / 8 : Nat) : Int) ∧ wrap64 ((j / 8 : Nat) : Int) = ((j / 8 : Nat) : Int) ∧ (j : Int).tmod 8 = ((j % 8 : Nat) : Int) ∧ ((j % 8 : Nat) : Int) * 8 = ((j % 8 * 8 : Nat) : Int) ∧ wrap64 ((j % 8 * 8 : Nat) : Int) = ((j % 8 * 8 : Nat) : Int) ∧ j % 8 * 8 ≤ 56 := by
  refine ⟨rfl, rfl, wrap64_nat _ (by omega), rfl, by norm_cast, wrap64_nat _ (by omega), by omega⟩
theorem u8_nat (X : Nat) : IntKind.u8.wrap (X : Int) = ((X % 256 : Nat) : Int) := by
  rw [IntKind.wrap_u8]
  omega

set_option maxRecDepth 100000 in
set_option maxHeartbeats 1000000 in
theorem bytes_any (base g W : Nat) (l ws : List Nat) (w : World) (hpk : PackAt base w g 56 W l.length ws) (hwl : ws.length = wordCount W l.length) (hlt : ∀ x ∈ ws, x < 2 ^ 64) (hW : W ≤ 64) (hn : l.length ≤ 131072) :
    Calls Try.prog 14 #[.pointer (some ⟨g, 0, none⟩)] w fun e w' => ∃ v', e = .returned v' ∧ w'.ownsRow w.heap.size 5 1 v' (byteCnt W l.length) (bytesV (bytesW ws (byteCnt W l.length))) ∧ From w w' := by
  obtain ⟨i0, hi0, hz0, hz1, hz2⟩ := info_parts u8_info
  obtain ⟨hh, cap, hb, hown, hne, -⟩ := hpk
  have c0 : w.cell? ⟨g, 0, none⟩ = some (.slice (some ⟨hh, 0, none⟩) ws.length cap) := by rw [hb.cell 0]; rfl
  have c1 : w.cell? ⟨g, 1, none⟩ = some (.int .i64 W) := by rw [hb.cell 1]; rfl
  have c2 : w.cell? ⟨g, 2, none⟩ = some (.int .i64 l.length) := by rw [hb.cell 2]; rfl
  have c1h := cell_heap c1
  have c2h := cell_heap c2
  have hbc := fun W' => byteCount_any W l.length W' hW hn
  have hm9 : byteCnt W l.length ≤ 1048577 := (bc_facts (wordCount_small hW hn).1 rfl).2.2.2.2.2
  have HO := Lib.hid (And.intro hown (And.intro hb hwl))
  have HL := Lib.hid hlt
  clear hown hwl hlt hb
  generalize hbcn : byteCnt W l.length = bc at *
  have HB := Lib.hid hbcn
  clear hbcn
  obtain ⟨L, hL⟩ : ∃ L, L = bytesW ws bc := ⟨_, rfl⟩
  have hLl : L.length = bc := by rw [hL]; simp [bytesW]
  rw [← hL]
  have HLL := Lib.hid (And.intro hL hLl)
  clear hL hLl
  go_enter Try.func14, Try.ntmps14
  go_wp2
  go_still_tail 11, (by kernel_rfl)
  still_call (hbc _)
  repeat still_step
  refine wpStill_nil ?_
  change wpList _ _ _ _ _ w.drew
  go_wp2_with (refine wpList_make_full (P := Try.prog) _ rfl _ _ _ rfl w.heap.size 5 i0 _ 1 Try.underlying24 hi0 hz0 hz1 .i64 .i64 _ _ bc rfl rfl rfl rfl (by rw [hz2]; omega) (by unfold maxLen; omega) (Nat.le_refl _) ?_; intro w1 hown1 hg1; have hb1 := From.grew (a := w) (From.d1 From.rfl_) hg1 (fun k hk => by cases hk); have HO1 := Lib.hid hown1; clear hown1)
  obtain ⟨hL, hLl⟩ := HLL.out
  go_loopw [19] (fun i wr => ∃ j : Nat, j ≤ bc ∧ i = .int .i64 j ∧ wr.ownsRow w.heap.size 5 1 (.slice (some ⟨w.heap.size, 0, none⟩) bc bc) bc (bytesV (L.take j ++ List.replicate (L.length - j) 0)) ∧ From w wr) (fun i _ => bc - (intOf i).toNat)
  case atStart =>
    refine ⟨0, by omega, rfl, ?_, hb1⟩
    have h1 := HO1.out
    have h2 := toList_madeCells_one (.int .u8 0) bc
    have h3 : (madeCells (Value.int .u8 0).cells (bc * 1)).toList = bytesV (L.take 0 ++ List.replicate (L.length - 0) 0) := by
      rw [Nat.mul_one]
      refine h2.trans ?_
      simp [bytesV, hLl]
    rw [h3] at h1
    exact h1
  case round =>
    clear HO1 hb1 hg1
    obtain ⟨j, hj, rfl, hown, hw⟩ := hrel
    have HOW := Lib.hid hown
    by_cases hlt2 : j < bc
    · have hjL : j < L.length := by rw [hLl]; exact hlt2
      have hj1 : j + 1 ≤ bc := hlt2
      have hj9 : j ≤ 1048577 := by omega
      have hbc9 := hm9
      clear hm9
      have i1 : (0 : Int) ≤ (j : Int) := by omega
      have i2 : (j : Int) < (bc : Int) := by omega
      have hl := take_len hjL
      have hrp := rep_pos hjL
      have f0 : ∀ w', From w w' → w'.cell? ⟨g, 0, none⟩ = some (.slice (some ⟨hh, 0, none⟩) ws.length cap) := fun w' h => by rw [(HO.out.2.1.from_ h).cell 0]; rfl
      have hq : j / 8 < ws.length := byte_ix hlt2 HB.out.symm HO.out.2.2
      have fq : ∀ w', From w w' → w'.cell? ⟨hh, j / 8, none⟩ = some (.int .u64 (ws[j / 8] : Nat)) := fun w' h => by
        have h1 := (HO.out.1.kept_from h).cellAt (j / 8) (by rw [Nat.mul_one]; exact hq)
        rw [h1]
        simp [wordsV, hq]
      have e1 := shr_nat ws[j / 8] (j % 8 * 8)
      have e2 := u8_nat (ws[j / 8] / 2 ^ (j % 8 * 8))
      have hLj : L[j]'hjL = ws[j / 8] / 2 ^ (j % 8 * 8) % 256 := by
        simp only [hL, bytesW, List.getElem_map, List.getElem_range]
        rw [List.getD_eq_getElem?_getD, List.getElem?_eq_getElem hq]
        rfl
      have hfill := fill_step (L := L) (j := j) hjL
      rw [hLj] at hfill
      have hcell : wr.cell? ⟨w.heap.size, j, none⟩ = some (.int .u8 0) := by
        rw [hown.cellAt j (by rw [Nat.mul_one]; exact hlt2)]
        simp only [bytesV, List.getElem?_map]
        rw [List.getElem?_append_right (by rw [hl]; exact Nat.le_refl _), hl, Nat.sub_self, List.getElem?_replicate, if_pos hrp]
        rfl
      have hfz := hown.frozenAt j
      have hst := (hown.stored j (.int .u8 ((ws[j / 8] / 2 ^ (j % 8 * 8) % 256 : Nat) : Int))).1
      have hbset : (bytesV (L.take j ++ List.replicate (L.length - j) 0)).set j (.int .u8 ((ws[j / 8] / 2 ^ (j % 8 * 8) % 256 : Nat) : Int)) = bytesV (L.take (j + 1) ++ List.replicate (L.length - (j + 1)) 0) := by
        rw [← hfill]
        simp [bytesV, List.map_set]
      rw [hbset] at hst
      have HST := Lib.hid hst
      have k1 : (0 : Int) ≤ ((j / 8 : Nat) : Int) := Int.natCast_nonneg _
      have k2 : ((j / 8 : Nat) : Int) < (ws.length : Int) := Int.ofNat_lt.2 hq
      have k3 : (0 : Int) ≤ ((j % 8 * 8 : Nat) : Int) := Int.natCast_nonneg _
      obtain ⟨r1, r2, r3, r4, r5, r6, r7⟩ := byte_facts j hj9
      have k4 : ((j % 8 * 8 : Nat) : Int) ≤ 64 := Int.ofNat_le.2 (Nat.le_trans r7 (by decide))
      have HB9 := Lib.hid hbc9
      clear hbc9
      clear hown hfill hst hbset hLj hL hbc c0 c1 c2 c1h c2h hl hrp hjL hLl HLL hj9 hn hW r7
      generalize ws[j / 8] / 2 ^ (j % 8 * 8) % 256 = Y at *
      generalize ws[j / 8] / 2 ^ (j % 8 * 8) = X at *
      generalize ws[j / 8] = x at *
      generalize j % 8 * 8 = s at *
      generalize j % 8 = r at *
      generalize j / 8 = q at *
      go_wp2
      go_roundw
      case rel =>
        clear r1 r2 r3 r4 r5 r6 k1 k2 k3 k4 e1 e2
        exact ⟨j + 1, hj1, by rw [wrap_succ j (Nat.le_trans hj HB9.out)]; rfl, HST.out, From.set_ hw (Nat.le_refl _) _⟩
      case measure =>
        rw [wrap_succ j (Nat.le_trans hj HB9.out)]
        exact meas_step hlt2
    · obtain rfl : j = bc := by omega
      clear hown
      go_wp2
      go_ret
      refine ⟨_, rfl, ?_, hw⟩
      have h1 := HOW.out
      rw [hLl, Nat.sub_self, List.take_of_length_le (by omega)] at h1
      simpa using h1
end Go.Proofs.Ytgnmmifolhoaeaa
