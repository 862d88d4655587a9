/- Walks of the statements' helpers on documents: their weight. -/
import Derived.Test.YtpehfjjhdadejaaArg
namespace Go.Proofs.Ytpehfjjhdadejaa
open Go.RowKit

abbrev DocTy : Ty := .pr .str (.pr .str .unit)
def docId (d : DocTy.den) : ByteArray := d.1
def docText (d : DocTy.den) : ByteArray := d.2.1
def docW (d : DocTy.den) : Nat := (docId d).size + (docText d).size
def docsW : List DocTy.den → Nat
  | [] => 0
  | d :: r => docW d + docsW r
theorem docsW_snoc : ∀ (l : List DocTy.den) (d : DocTy.den), docsW (l ++ [d]) = docsW l + docW d
  | [], d => by simp [docsW]
  | x :: r, d => by simp only [List.cons_append, docsW, docsW_snoc r d]; omega

/-- the documents that a slice value reads as, by index -/
theorem docs_at {w : World} {v : Value} {xs : List DocTy.den} (h : (Ty.sl DocTy).At w (fun _ => some v) xs) :
    ∃ A cap, v = .slice A xs.length cap ∧ xs.length * 32 ≤ 140737488351232 ∧ (0 < xs.length → ∃ b o, A = some ⟨b, o, none⟩ ∧ b < w.heap.size ∧
      ∀ i (hi : i < xs.length), w.cell? ⟨b, o + i * 2, none⟩ = some (.string (docId xs[i])) ∧ w.cell? ⟨b, o + i * 2 + 1, none⟩ = some (.string (docText xs[i])) ∧ (docId xs[i]).size ≤ 140737488351232 ∧ (docText xs[i]).size ≤ 140737488351232) := by
  obtain ⟨A, cap, h0, h1, h2, h3⟩ := h
  simp only [Option.some.injEq] at h0
  refine ⟨A, cap, h0, h1, fun hp => ?_⟩
  obtain ⟨b, o, hA, hb, hi⟩ := h3 hp
  refine ⟨b, o, hA, hb, fun i hil => ?_⟩
  obtain ⟨⟨c1, s1⟩, ⟨c2, s2⟩, _⟩ := hi i _ (List.getElem?_eq_getElem hil)
  exact ⟨c1, c2, s1, s2⟩

def DwRel (w : World) (xs : List DocTy.den) (n i : Value) (wr : World) : Prop :=
  ∃ j m : Nat, j ≤ xs.length ∧ i = .int .i64 j ∧ n = .int .i64 m ∧ m = xs.length + docsW (xs.take j) ∧ m ≤ 281476000000000 ∧ From w wr

set_option maxRecDepth 100000 in
set_option maxHeartbeats 1000000 in
theorem docweight_any (v : Value) (xs : List DocTy.den) (w : World) (h : (Ty.sl DocTy).At w (fun _ => some v) xs) :
    Calls Try.prog 21 #[v] w fun e w' => ∃ r : Nat, e = .returned (.int .i64 r) ∧ (r < 1048576 → r = xs.length + docsW xs) ∧ r ≤ 281476000000000 ∧ From w w' := by
  obtain ⟨A, cap, rfl, hlen, hrow⟩ := docs_at h
  go_enter Try.func21, Try.ntmps21
  go_wp2
  go_loopw [3, 4] (DwRel w xs) (fun _ i _ => xs.length - (intOf i).toNat)
  case atStart => exact ⟨0, xs.length, by omega, rfl, rfl, by simp [docsW], by omega, From.rfl_⟩
  case round =>
    obtain ⟨j, m, hj, rfl, rfl, hm, hmb, hw⟩ := hrel
    have HM := Lib.hid hm
    clear hm
    by_cases hlt : j < xs.length
    · by_cases hm20 : m < 1048576
      · obtain ⟨b, o, rfl, hb, hc⟩ := hrow (by omega)
        obtain ⟨c1, c2, s1, s2⟩ := hc j hlt
        have d1 : ∀ w', From w w' → w'.cell? ⟨b, o + j * 2, none⟩ = some (.string (docId xs[j])) := fun w' h => (h.cells b _ hb).trans c1
        have d2 : ∀ w', From w w' → w'.cell? ⟨b, o + j * 2 + 1, none⟩ = some (.string (docText xs[j])) := fun w' h => (h.cells b _ hb).trans c2
        have hd : decide ((m : Int) < 1048576) = true := by simp; omega
        have hm3 : (m : Int) ≤ 1048576 := by omega
        have HM20 := Lib.hid hm20
        have HMB := Lib.hid hmb
        clear hm20 hmb
        have hw2 := hw.d1
        have i1 : (0 : Int) ≤ (j : Int) := by omega
        have i2 : (j : Int) < (xs.length : Int) := by omega
        have hsn : xs.take (j + 1) = xs.take j ++ [xs[j]] := List.take_succ_eq_append_getElem hlt
        have hsum : docsW (xs.take (j + 1)) = docsW (xs.take j) + ((docId xs[j]).size + (docText xs[j]).size) := by rw [hsn, docsW_snoc]; rfl
        have HS := Lib.hid hsum
        clear hc c1 c2 hrow h hsn hsum
        generalize docId xs[j] = a1 at *
        generalize docText xs[j] = a2 at *
        go_wp2_with fail
        go_quiet (fail)
        go_wp2
        go_roundw
        case rel => exact ⟨j + 1, m + a1.size + a2.size, by omega, by go_num, by go_num, by have := HM.out; have := HS.out; omega, by omega, hw.dn _⟩
        case measure => simp [intOf]; omega
      · have hd : decide ((m : Int) < 1048576) = false := by simp; omega
        have HM20 := Lib.hid hm20
        have HMB := Lib.hid hmb
        clear hm20 hmb
        go_wp2
        go_ret
        exact ⟨m, rfl, fun hh => absurd hh HM20.out, HMB.out, hw⟩
    · have hjl : j = xs.length := by omega
      have HJ := Lib.hid hjl
      clear hjl
      go_wp2
      go_ret
      exact ⟨m, rfl, fun _ => by have := HM.out; rw [HJ.out, List.take_length] at this; exact this, hmb, hw⟩
end Go.Proofs.Ytpehfjjhdadejaa
