/- suffix: nameStarts. -/
import Derived.Test.YtpafbgdbjambgaaSufPiece
namespace Go.Proofs.Ytpafbgdbjambgaa
open Go.RowKit
open Go.ChangeShapes Go.WideShapes Go.ChangeAt
open Go.Proofs.Ytpafbgdbjambgaa.SA
theorem SufName_e51 : elemQ Try.prog 51 = some (21, 1) := by kernel_rfl
theorem SufName_m51 : makeQ Try.prog 51 = some (21, 4, (.int .i32 0)) := by kernel_rfl
theorem SufName_q51 : litQ Try.prog 51 = some (21, 1, 4, (.int .i32 0)) := by kernel_rfl
theorem SufName_s3 : (Try.prog.underlying 3).isSome = true := by kernel_rfl
theorem SufName_i21 : Try.prog.underlying 21 = some (.int .i32) := by kernel_rfl
theorem SufName_f60_0 : fieldQ Try.prog 60 0 = some 0 := by kernel_rfl
theorem SufName_g51 : aggQ Try.prog 51 = some false := by kernel_rfl
theorem SufName_l51 : (elemQ Try.prog 51).isSome = true := by kernel_rfl
theorem SufName_f60_3 : fieldQ Try.prog 60 3 = some 3 := by kernel_rfl
theorem SufName_g21 : aggQ Try.prog 21 = some false := by kernel_rfl
theorem SufName_z21 : sizeQ Try.prog 21 = some 1 := by kernel_rfl
theorem SufName_k30 : callable Try.prog 30 = true := by kernel_rfl
theorem SufName_k33 : callable Try.prog 33 = true := by kernel_rfl
section
variable {n m : Nat} {t ss : Nat → Nat}
open Classical in
noncomputable def idxS (m : Nat) (ss : Nat → Nat) (s : Nat) : Nat := if h : ∃ k, k < m ∧ ss k = s then Classical.choose h else 0
theorem idx_at (H : Starts n t m ss) {k : Nat} (hk : k < m) : idxS m ss (ss k) = k := by
  have h : ∃ j, j < m ∧ ss j = ss k := ⟨k, hk, rfl⟩
  unfold idxS
  rw [dif_pos h]
  have := Classical.choose_spec h
  exact H.inj this.1 hk this.2
theorem idx_lt (H : Starts n t m ss) : ∀ s, lms n t s → idxS m ss s < m := fun s hs => by
  obtain ⟨k, hk, rfl⟩ := H.all s hs
  rw [idx_at H hk]
  exact hk
theorem idx_ord (H : Starts n t m ss) : Ord n t (idxS m ss) := ⟨fun i j hi hj he => by
  obtain ⟨a, ha, rfl⟩ := H.all i hi
  obtain ⟨b, hb, rfl⟩ := H.all j hj
  rw [idx_at H ha, idx_at H hb] at he
  rw [he]⟩
/-- the starts' numbers, as far as they are written -/
structure Numb (n m : Nat) (ss : Nat → Nat) (k : Nat) (num : Nat → Int) : Prop where
  is : ∀ j, j < k → num (ss j) = ((j + 1 : Nat) : Int)
  no : ∀ i, (∀ j, j < k → ss j ≠ i) → num i = 0
theorem Numb.put (H : Starts n t m ss) {k : Nat} {num : Nat → Int} (h : Numb n m ss k num) (hk : k < m) : Numb n m ss (k + 1) (upd num (ss k) ((k + 1 : Nat) : Int)) := by
  refine ⟨fun j hj => ?_, fun i hi => ?_⟩
  · by_cases e : j = k
    · subst e; rw [upd_same]
    · rw [upd_ne _ _ (fun e2 => e (H.inj (by omega) hk e2))]
      exact h.is j (by omega)
  · rw [upd_ne _ _ (fun e => hi k (by omega) e.symm)]
    exact h.no i fun j hj => hi j (by omega)
theorem Numb.start {num : Nat → Int} (h : Numb n m ss m num) {i : Nat} (hi : num i ≠ 0) : ∃ s, s < m ∧ ss s = i ∧ num i = ((s + 1 : Nat) : Int) := by
  by_cases e : ∃ s, s < m ∧ ss s = i
  · obtain ⟨s, hs, rfl⟩ := e
    exact ⟨s, hs, rfl, h.is s hs⟩
  · exact absurd (h.no i fun j hj he => e ⟨j, hj, he⟩) hi
/-- the starts of the first rows, in order -/
structure Rowed (n : Nat) (t idx : Nat → Nat) (r : Nat) (ol : List Nat) : Prop where
  mem : ∀ s, s ∈ ol ↔ lms n t s ∧ pos n t idx s < r
  up : ol.Pairwise fun a b => pos n t idx a < pos n t idx b
variable {idx : Nat → Nat} {r : Nat} {ol : List Nat}
theorem Rowed.skip (h : Rowed n t idx r ol) (hno : ∀ s, lms n t s → pos n t idx s ≠ r) : Rowed n t idx (r + 1) ol :=
  ⟨fun s => by
    rw [h.mem]
    exact ⟨fun a => ⟨a.1, by omega⟩, fun a => ⟨a.1, by have := hno s a.1; omega⟩⟩, h.up⟩
theorem Rowed.put (ht : Txt n t) (ho : Ord n t idx) (h : Rowed n t idx r ol) {i : Nat} (hi : lms n t i) (hp : pos n t idx i = r) : Rowed n t idx (r + 1) (ol ++ [i]) := by
  refine ⟨fun s => ?_, ?_⟩
  · rw [List.mem_append, h.mem, List.mem_singleton]
    constructor
    · rintro (a | rfl)
      · exact ⟨a.1, by omega⟩
      · exact ⟨hi, by omega⟩
    · rintro ⟨a, b⟩
      by_cases e : pos n t idx s = r
      · exact .inr (pos_inj ht ho a.2.1 hi.2.1 (by rw [e, hp]))
      · exact .inl ⟨a, by omega⟩
  · rw [List.pairwise_append]
    refine ⟨h.up, List.pairwise_singleton .., fun a ha b hb => ?_⟩
    rw [List.mem_singleton] at hb
    subst hb
    have := (h.mem a).1 ha
    omega
theorem Rowed.len_le (h : Rowed n t idx r ol) : ol.length ≤ r := by
  have : ∀ (l : List Nat) (q : Nat), (∀ s ∈ l, pos n t idx s < r ∧ q ≤ pos n t idx s) → l.Pairwise (fun a b => pos n t idx a < pos n t idx b) → l.length + q ≤ r ∨ l = [] := by
    intro l
    induction l with
    | nil => intro q _ _; exact .inr rfl
    | cons a l ih =>
      intro q hq hp
      rw [List.pairwise_cons] at hp
      have h1 := hq a (List.mem_cons_self ..)
      rcases ih (pos n t idx a + 1) (fun s hs => ⟨(hq s (List.mem_cons_of_mem _ hs)).1, by have := hp.1 s hs; omega⟩) hp.2 with e | e
      · left; simp only [List.length_cons]; omega
      · subst e; left; simp; omega
  rcases this ol 0 (fun s hs => ⟨((h.mem s).1 hs).2, Nat.zero_le _⟩) h.up with e | e
  · omega
  · rw [e]; simp
/-- what is known of the last one -/
def Lst (n : Nat) (t idx : Nat → Nat) (m : Nat) (ss : Nat → Nat) (r : Nat) (nm : Nat → Nat) (kinds : Nat) (last : Int) : Prop :=
  (last = -1 ∧ ∀ a, a < m → r ≤ pos n t idx (ss a)) ∨ ∃ b : Nat, last = b ∧ LastN n t idx m ss r nm kinds b
def Nxt (n : Nat) (t idx : Nat → Nat) (m : Nat) (ss : Nat → Nat) (r : Nat) (nm : Nat → Nat) (kinds s kinds2 : Nat) : Prop :=
  (kinds2 = 0 ∧ ∀ a, a < m → r ≤ pos n t idx (ss a)) ∨ ∃ b, LastN n t idx m ss r nm kinds b ∧ ((piece n t (ss b) = piece n t (ss s) ∧ kinds2 = kinds) ∨ (piece n t (ss b) ≠ piece n t (ss s) ∧ kinds2 = kinds + 1))
theorem updN_row {s v k : Nat} {nm : Nat → Nat} : upd (fun k => ((nm k : Nat) : Int)) s ((v : Nat) : Int) k = ((updN nm s v k : Nat) : Int) := by
  unfold upd updN
  split <;> rfl
end
set_option maxRecDepth 100000 in
set_option maxHeartbeats 4000000 in
theorem names_rt (b n K m : Nat) (t ss : Nat → Nat) (w : World) (hT : TextAt w b n K t m ss) (h0 : 0 < m) (hm : m ≤ 200000) (hn : n ≤ 200000) (hK : K ≤ 200000) (H : Starts n t m ss) (h2 : 2 ≤ n) (ht : Txt n t) (hkt : ∀ i, i < n → t i < K) :
    Rt Try.prog 29 [.pointer (some ⟨b, 0, none⟩)] w (fun v w' => (∃ idx ol Ao co g nm kinds, v = .tuple #[.slice Ao ol.length co, .slice (some ⟨g, 0, none⟩) m m, .int .i64 ((kinds + 1 : Nat) : Int)] ∧ RowOf jV w' Ao (ol.map fun x : Nat => (x : Int)) ∧ w.heap.size ≤ g ∧ VJ w' g m (fun k => ((nm k : Nat) : Int)) ∧ InvN n t idx m ss n nm kinds ∧ Ord n t idx ∧ Rowed n t idx n ol ∧ kinds ≤ n) ∧ From w w') := by
  have hT0 := hT
  obtain ⟨gl, gr, AS, cs, ge, hb, hl, hr, hss, he⟩ := hT
  obtain ⟨bs, oS, rfl, hsc⟩ := text_ss hss h0
  refine enter (n := 88) Try.func29 rfl rfl rfl ?_
  refine cd_seq ?_
  refine cd_region ?_
  refine st_val (ro_assign (v := .slice _ _ _) rfl) ?_
  refine st_val (ro_assign (v := .slice _ _ _) rfl) ?_
  refine st_val (ro_assign (v := .int _ _) rfl) ?_
  refine st_nil ?_
  refine nx_then ?_
  refine cd_seq ?_
  refine cd_region ?_
  refine st_val (ro_move (v := .pointer _) rfl) ?_
  refine st_val (ro_nilCheck rfl) ?_
  refine st_val (ro_fieldAddr SufName_f60_0 rfl) ?_
  refine st_val (ro_load SufName_g51 rfl (by exact cellF From.rfl_ (hb.rd 0 rfl))) ?_
  refine st_val (ro_len SufName_l51 rfl) ?_
  refine st_make SufName_m51 rfl rfl rfl (by omega) (by omega) ?_
  intro b17 w1 E17 hb17 hk17
  have hg17 : w.heap.size ≤ b17 := by rw [hb17]; exact (From.rfl_).size
  refine st_val (ro_assign (v := .slice _ _ _) rfl) ?_
  refine st_nil ?_
  refine nx_then ?_
  refine cd_seq ?_
  refine cd_seq ?_
  refine cd_region ?_
  refine st_val (ro_move (v := .pointer _) rfl) ?_
  refine st_val (ro_nilCheck rfl) ?_
  refine st_val (ro_fieldAddr SufName_f60_3 rfl) ?_
  refine st_val (ro_load SufName_g51 rfl (by exact cellF (From.rfl_.next E17) (hb.rd 3 rfl))) ?_
  refine st_val (ro_len SufName_l51 rfl) ?_
  refine st_val (ro_move (v := .int _ _) rfl) ?_
  refine st_nil ?_
  refine nx_then ?_
  refine cd_block ?_
  refine cd_loop (G := Nat × (Nat → Int)) [6, 7, 24, 25, 26, 27, 28, 29, 30, 31, 32, 33, 34] (fun (k, _) => [(23, .int .i64 (k : Nat))]) (fun (k, num) w' => k ≤ m ∧ Numb n m ss k num ∧ VJ w' b17 n num ∧ From w w') (fun (k, _) => m - k) ((0, fun _ => 0)) ⟨rfl, trivial⟩ ?_ ?_
  · exact ⟨Nat.zero_le _, ⟨fun j h => absurd h (by omega), fun _ _ => rfl⟩, VJ.of_blk (by rw [← tabJ_zero]; exact hk17), (From.rfl_.next E17)⟩
  rintro ⟨k, num⟩ ρ2 w2 ⟨hk, hnum, hnb, hB⟩
  refine cd_seq ?_
  refine cd_region ?_
  refine st_val (ro_lss rfl rfl) ?_
  refine st_nil ?_
  refine nx_then ?_
  refine cd_seq ?_
  refine cd_cond rfl (fun Q3 => ?_) (fun Q3 => ?_)
  · (try with_reducible first | replace Q3 := of_decide_eq_true Q3 | replace Q3 := of_decide_eq_false Q3 | replace Q3 := bn_t Q3 | replace Q3 := bn_f Q3)
    (try with_reducible first | replace Q3 := of_decide_eq_true Q3 | replace Q3 := of_decide_eq_false Q3 | replace Q3 := bx_t Q3 | replace Q3 := bx_f Q3 | replace Q3 := be_t Q3 | replace Q3 := be_f Q3)
    have hkm : k < m := by omega
    obtain ⟨cu, hcu, hsz, hce⟩ := id hnb
    refine cd_skip ?_
    refine nx_then ?_
    refine cd_seq ?_
    refine cd_block ?_
    refine cd_seq ?_
    refine cd_region ?_
    refine st_val (ro_move (v := .int _ _) rfl) ?_
    refine st_val (ro_indexAddr1 SufName_e51 rfl rfl (by exact hkm)) ?_
    refine st_val (ro_load SufName_g21 rfl (by exact cellF hB (hsc k hkm))) ?_
    refine st_val (ro_assign (v := .int _ _) rfl) ?_
    refine st_val (ro_assign (v := .int _ _) rfl) ?_
    refine st_nil ?_
    refine nx_then ?_
    refine cd_region ?_
    refine st_val (ro_move (v := .slice _ _ _) rfl) ?_
    refine st_val (ro_move (v := .int _ _) rfl) ?_
    refine st_val (ro_move (v := .int _ _) rfl) ?_
    refine st_val (ro_conv32 SufName_s3 SufName_i21 rfl (by omega)) ?_
    refine st_val (ro_add32 (r := ((k + 1 : Nat) : Int)) rfl rfl (by omega) (by omega)) ?_
    refine st_val (ro_indexAddr0 SufName_e51 rfl rfl (by exact (H.is k hkm).2.1)) ?_
    refine st_put (v := .int _ _) SufName_z21 rfl rfl rfl (hcu) (by have := (H.is k hkm).2.1; omega) ?_
    intro w4 O5 P5
    have hnb5 := VJ.put P5 hsz hce (H.is k hkm).2.1
    refine st_nil ?_
    refine nx_block ?_
    refine nx_then ?_
    refine cd_region ?_
    refine st_val (ro_addN (b := 1) rfl rfl (by omega)) ?_
    refine st_val (ro_move (v := .int _ _) rfl) ?_
    refine st_nil ?_
    refine nx_cut ((k + 1, upd num (ss k) ((k + 1 : Nat) : Int))) ⟨(by first | rfl | (refine int_eq ?_; omega)), trivial⟩ (by (iterate 28 refine agr_cons rfl ?_); exact agr_rfl) ⟨?_, ?_⟩
    · exact ⟨by omega, hnum.put H hkm, hnb5, (hB.only O5 (hg17))⟩
    · show m - (k + 1) < m - k; omega
  · (try with_reducible first | replace Q3 := of_decide_eq_true Q3 | replace Q3 := of_decide_eq_false Q3 | replace Q3 := bn_t Q3 | replace Q3 := bn_f Q3)
    (try with_reducible first | replace Q3 := of_decide_eq_true Q3 | replace Q3 := of_decide_eq_false Q3 | replace Q3 := bx_t Q3 | replace Q3 := bx_f Q3 | replace Q3 := be_t Q3 | replace Q3 := be_f Q3)
    refine cd_exit ?_
    refine ex_then ?_
    refine ex_then ?_
    refine ex_block ?_
    refine nx_then ?_
    refine cd_seq ?_
    refine cd_region ?_
    refine st_val (ro_move (v := .pointer _) rfl) ?_
    refine st_val (ro_nilCheck rfl) ?_
    refine st_val (ro_fieldAddr SufName_f60_3 rfl) ?_
    refine st_val (ro_load SufName_g51 rfl (by exact cellF hB (hb.rd 3 rfl))) ?_
    refine st_val (ro_len SufName_l51 rfl) ?_
    refine st_make SufName_m51 rfl rfl rfl (by omega) (by omega) ?_
    intro b40 w5 E40 hb40 hk40
    have hg40 : w.heap.size ≤ b40 := by rw [hb40]; exact (hB).size
    have h1740 : b17 < b40 := by rw [hb40]; exact hnb.lt
    have hnm0 : VJ w5 b40 m (fun _ => 0) := VJ.of_blk (by rw [tabJ_zero] at hk40; exact hk40)
    refine st_val (ro_assign (v := .slice _ _ _) rfl) ?_
    refine st_nil ?_
    refine nx_then ?_
    refine cd_seq ?_
    refine cd_region ?_
    refine st_val (ro_assign (v := .int _ _) rfl) ?_
    refine st_nil ?_
    refine nx_then ?_
    refine cd_seq ?_
    refine cd_seq ?_
    refine cd_region ?_
    refine st_val (ro_move (v := .pointer _) rfl) ?_
    refine st_val (ro_move (v := .pointer _) rfl) ?_
    refine st_val (ro_nilCheck rfl) ?_
    refine st_val (ro_fieldAddr SufName_f60_3 rfl) ?_
    refine st_val (ro_load SufName_g51 rfl (by exact cellF (hB.next E40) (hb.rd 3 rfl))) ?_
    refine st_call SufName_k30 (induce_rt b n K m t ss _ (hT0.from_ (hB.next E40)) h2 ht hkt hn hK bs oS m cs ss (idxS m ss) (fun q hq => cellF (hB.next E40) (hsc q hq)) (fun q hq => ⟨H.is q hq, idx_at H hq⟩) (idx_lt H) (idx_ord H) hm) ?_
    rintro v46 w6 ⟨⟨gI, xs, rfl, hgI, hxs, hxp⟩, E46⟩
    obtain ⟨z, hz⟩ : ∃ z, z = (w6).heap.size := ⟨_, rfl⟩
    have hIz : gI < z := by rw [hz]; exact hxs.lt
    have h40I : b40 < gI := Nat.lt_of_lt_of_le hk40.lt hgI
    have hwz : w.heap.size ≤ z := by omega
    obtain rfl : m = k := by omega
    refine st_val (ro_len SufName_l51 rfl) ?_
    refine st_val (ro_move (v := .int _ _) rfl) ?_
    refine st_nil ?_
    refine nx_then ?_
    refine cd_block ?_
    refine cd_loop (G := Nat × List Nat × Option Addr × Nat × (Nat → Nat) × Nat × Int) [10, 11, 49, 50, 51, 52, 53, 54, 55, 56, 57, 58, 59, 60, 61, 62, 63, 64, 65, 66, 67, 68, 69, 70, 71, 72, 73, 74, 75, 76, 77, 78, 79, 80, 81, 82, 83] (fun (r, ol, A2, c2, _, kinds, last) => [(48, .int .i64 (r : Nat)), (2, .slice A2 ol.length c2), (4, .int .i64 (kinds : Nat)), (8, .int .i32 last)]) (fun (r, ol, A2, c2, nm, kinds, last) w' => r ≤ n ∧ InvN n t (idxS m ss) m ss (r) nm kinds ∧ Lst n t (idxS m ss) m ss (r) nm kinds last ∧ Rowed n t (idxS m ss) (r) ol ∧ kinds ≤ r ∧ w'.ownsRow z 21 1 (.slice A2 ol.length c2) ol.length (ol.map fun x : Nat => jV (x : Nat)) ∧ VJ w' b40 m (fun k => ((nm k : Nat) : Int)) ∧ VJ w' b17 n num ∧ VJ w' gI n xs ∧ z ≤ w'.heap.size ∧ From w w') (fun (r, _) => n - r) ((0, [], none, 0, fun _ => 0, 0, -1)) ⟨rfl, rfl, rfl, rfl, trivial⟩ ?_ ?_
    · refine ⟨Nat.zero_le _, invN_start, .inl ⟨rfl, fun _ _ => Nat.zero_le _⟩, ⟨fun s => ⟨fun h => (by cases h), fun h => absurd h.2 (by omega)⟩, List.Pairwise.nil⟩, Nat.le_refl _, World.ownsRow_nil _ _ _ _, (hnm0.from_ E46).congr (fun _ _ => rfl), hnb.from_ ((From.rfl_.next E40).next E46), hxs.from_ From.rfl_, by rw [hz]; exact Nat.le_refl _, ((hB.next E40).next E46)⟩
    rintro ⟨r, ol, A2, c2, nm, kinds, last⟩ ρ7 w7 ⟨hr0, hI, hlast, hol, hkr, ho, hnm, hnb, hxs, hzs, hB⟩
    refine cd_seq ?_
    refine cd_region ?_
    refine st_val (ro_lss rfl rfl) ?_
    refine st_nil ?_
    refine nx_then ?_
    refine cd_seq ?_
    refine cd_cond rfl (fun Q8 => ?_) (fun Q8 => ?_)
    · (try with_reducible first | replace Q8 := of_decide_eq_true Q8 | replace Q8 := of_decide_eq_false Q8 | replace Q8 := bn_t Q8 | replace Q8 := bn_f Q8)
      (try with_reducible first | replace Q8 := of_decide_eq_true Q8 | replace Q8 := of_decide_eq_false Q8 | replace Q8 := bx_t Q8 | replace Q8 := bx_f Q8 | replace Q8 := be_t Q8 | replace Q8 := be_f Q8)
      have hrn : r < n := by omega
      obtain ⟨i, hin, hir⟩ := pos_surj ht (idx_ord H) hrn
      have hcx : (w7).cell? ⟨gI, r, none⟩ = some (.int .i32 ((i : Nat) : Int)) := by rw [hxs.rd hrn, ← hir, hxp i hin]
      refine cd_skip ?_
      refine nx_then ?_
      refine cd_cut (G := List Nat × Option Addr × Nat × (Nat → Nat) × Nat × Int) [10, 11, 50, 51, 52, 53, 54, 55, 56, 57, 58, 59, 60, 61, 62, 63, 64, 65, 66, 67, 68, 69, 70, 71, 72, 73, 74, 75, 76, 77, 78, 79, 80, 81, 82] (fun (ol, A2, c2, _, kinds, last) => [(2, .slice A2 ol.length c2), (4, .int .i64 (kinds : Nat)), (8, .int .i32 last)]) (fun (ol, A2, c2, nm, kinds, last) w' => InvN n t (idxS m ss) m ss (r + 1) nm kinds ∧ Lst n t (idxS m ss) m ss (r + 1) nm kinds last ∧ Rowed n t (idxS m ss) (r + 1) ol ∧ kinds ≤ r + 1 ∧ w'.ownsRow z 21 1 (.slice A2 ol.length c2) ol.length (ol.map fun x : Nat => jV (x : Nat)) ∧ VJ w' b40 m (fun k => ((nm k : Nat) : Int)) ∧ VJ w' b17 n num ∧ VJ w' gI n xs ∧ z ≤ w'.heap.size ∧ From w w') ?_ ?_
      · refine cd_block ?_
        refine cd_seq ?_
        refine cd_region ?_
        refine st_val (ro_indexAddr0 SufName_e51 rfl rfl (by exact hrn)) ?_
        refine st_val (ro_load SufName_g21 rfl (by exact cellF From.rfl_ hcx)) ?_
        refine st_val (ro_assign (v := .int _ _) rfl) ?_
        refine st_nil ?_
        refine nx_then ?_
        refine cd_seq ?_
        refine cd_seq ?_
        refine cd_region ?_
        refine st_val (ro_move (v := .slice _ _ _) rfl) ?_
        refine st_val (ro_move (v := .int _ _) rfl) ?_
        refine st_val (ro_indexAddr0 SufName_e51 rfl rfl (by exact hin)) ?_
        refine st_val (ro_load SufName_g21 rfl (by exact (hnb.from_ From.rfl_).rd hin)) ?_
        refine st_val (ro_eql rfl rfl) ?_
        refine st_nil ?_
        refine nx_then ?_
        refine cd_cond rfl (fun Q9 => ?_) (fun Q9 => ?_)
        · (try with_reducible first | replace Q9 := of_decide_eq_true Q9 | replace Q9 := of_decide_eq_false Q9 | replace Q9 := bn_t Q9 | replace Q9 := bn_f Q9)
          (try with_reducible first | replace Q9 := of_decide_eq_true Q9 | replace Q9 := of_decide_eq_false Q9 | replace Q9 := bx_t Q9 | replace Q9 := bx_f Q9 | replace Q9 := be_t Q9 | replace Q9 := be_f Q9)
          have hn0 : num i = 0 := by omega
          refine cd_exit ?_
          refine ex_then ?_
          refine ex_block ?_
          refine nx_cut ((ol, A2, c2, nm, kinds, last)) ⟨rfl, rfl, rfl, trivial⟩ (by (iterate 8 refine agr_cons rfl ?_); exact agr_rfl) ?_
          have hno : ∀ s, lms n t s → pos n t (idxS m ss) s ≠ r := fun s hs he => by
            obtain ⟨a, ha, rfl⟩ := H.all s hs
            have := pos_inj ht (idx_ord H) hs.2.1 hin (by rw [he, hir])
            have e2 := hnum.is a ha
            rw [this] at e2
            omega
          obtain ⟨s1, s2⟩ := invN_skip hI fun a ha => hno _ (H.is a ha)
          exact ⟨s1, hlast.elim (fun a => .inl ⟨a.1, fun q hq => by have := a.2 q hq; have := hno _ (H.is q hq); omega⟩) (fun ⟨bb, x, y⟩ => .inr ⟨bb, x, s2 bb y⟩), hol.skip hno, by omega, ho.kept_from From.rfl_, hnm.from_ From.rfl_, hnb.from_ From.rfl_, hxs.from_ From.rfl_, Nat.le_trans hzs (From.rfl_).size, hB⟩
        · (try with_reducible first | replace Q9 := of_decide_eq_true Q9 | replace Q9 := of_decide_eq_false Q9 | replace Q9 := bn_t Q9 | replace Q9 := bn_f Q9)
          (try with_reducible first | replace Q9 := of_decide_eq_true Q9 | replace Q9 := of_decide_eq_false Q9 | replace Q9 := bx_t Q9 | replace Q9 := bx_f Q9 | replace Q9 := be_t Q9 | replace Q9 := be_f Q9)
          obtain ⟨s, hs, hsi, hns⟩ := hnum.start (i := i) (by omega)
          have hls : lms n t i := by rw [← hsi]; exact H.is s hs
          have hcs : (w7).cell? ⟨b17, i, none⟩ = some (.int .i32 ((s + 1 : Nat) : Int)) := by rw [hnb.rd hin, hns]
          refine cd_skip ?_
          refine nx_then ?_
          refine cd_seq ?_
          refine cd_region ?_
          refine st_val (ro_move (v := .slice _ _ _) rfl) ?_
          refine st_val (ro_move (v := .int _ _) rfl) ?_
          refine st_val (ro_indexAddr0 SufName_e51 rfl rfl (by exact hin)) ?_
          refine st_val (ro_load SufName_g21 rfl (by exact cellF From.rfl_ hcs)) ?_
          refine st_val (ro_sub32 (r := ((s : Nat) : Int)) rfl rfl (by omega) (by omega)) ?_
          refine st_val (ro_assign (v := .int _ _) rfl) ?_
          refine st_nil ?_
          refine nx_then ?_
          refine cd_cut (G := Nat) [62, 63, 64, 65, 66, 67, 68, 69, 70, 71, 72] (fun k2 => [(4, .int .i64 (k2 : Nat))]) (fun k2 w' => Nxt n t (idxS m ss) m ss r nm kinds s k2 ∧ k2 ≤ r + 1 ∧ From w7 w') ?_ ?_
          · refine cd_seq ?_
            refine cd_region ?_
            refine st_val (ro_move (v := .int _ _) rfl) ?_
            refine st_val (ro_geq rfl rfl) ?_
            refine st_val (ro_move (v := .bool _) rfl) ?_
            refine st_split (t := 64) rfl (fun Q10 => ?_) (fun Q10 => ?_)
            · (try with_reducible first | replace Q10 := of_decide_eq_true Q10 | replace Q10 := of_decide_eq_false Q10 | replace Q10 := bn_t Q10 | replace Q10 := bn_f Q10)
              (try with_reducible first | replace Q10 := of_decide_eq_true Q10 | replace Q10 := of_decide_eq_false Q10 | replace Q10 := bx_t Q10 | replace Q10 := bx_f Q10 | replace Q10 := be_t Q10 | replace Q10 := be_f Q10)
              obtain ⟨bl, rfl, hbl⟩ : ∃ bl : Nat, last = bl ∧ LastN n t (idxS m ss) m ss r nm kinds bl := hlast.elim (fun a => absurd a.1 (by omega)) id
              refine st_unguard rfl ?_
              refine st_val (ro_move (v := .pointer _) rfl) ?_
              refine st_unguard rfl ?_
              refine st_val (ro_move (v := .int _ _) rfl) ?_
              refine st_unguard rfl ?_
              refine st_val (ro_move (v := .int _ _) rfl) ?_
              refine st_unguard rfl ?_
              refine st_call SufName_k33 (same_rt b n K m t ss _ (hT0.from_ hB) h0 hm hn H h2 ht bl s hbl.1 hs) ?_
              rintro v68 w11 ⟨⟨rs, rfl, hrs⟩, E68⟩
              refine st_unguard rfl ?_
              refine st_val (ro_not rfl) ?_
              refine st_val (ro_pickT (v := .bool _) rfl rfl) ?_
              refine st_nil ?_
              refine nx_then ?_
              refine cd_cond rfl (fun Q12 => ?_) (fun Q12 => ?_)
              · (try with_reducible first | replace Q12 := of_decide_eq_true Q12 | replace Q12 := of_decide_eq_false Q12 | replace Q12 := bn_t Q12 | replace Q12 := bn_f Q12)
                (try with_reducible first | replace Q12 := of_decide_eq_true Q12 | replace Q12 := of_decide_eq_false Q12 | replace Q12 := bx_t Q12 | replace Q12 := bx_f Q12 | replace Q12 := be_t Q12 | replace Q12 := be_f Q12)
                have hkk : Nxt n t (idxS m ss) m ss r nm kinds s (kinds + 1) := .inr ⟨bl, hbl, .inr ⟨fun e => by rw [hrs.2 (by rw [e, hsi])] at Q12; simp at Q12, rfl⟩⟩
                refine cd_region ?_
                refine st_val (ro_move (v := .int _ _) rfl) ?_
                refine st_val (ro_addN (b := 1) rfl rfl (by omega)) ?_
                refine st_val (ro_assign (v := .int _ _) rfl) ?_
                refine st_nil ?_
                refine nx_cut (kinds + 1) ⟨(by first | rfl | (refine int_eq ?_; omega)), trivial⟩ (by (iterate 13 refine agr_cons rfl ?_); exact agr_rfl) ?_
                exact ⟨hkk, by omega, (From.rfl_.next E68)⟩
              · (try with_reducible first | replace Q12 := of_decide_eq_true Q12 | replace Q12 := of_decide_eq_false Q12 | replace Q12 := bn_t Q12 | replace Q12 := bn_f Q12)
                (try with_reducible first | replace Q12 := of_decide_eq_true Q12 | replace Q12 := of_decide_eq_false Q12 | replace Q12 := bx_t Q12 | replace Q12 := bx_f Q12 | replace Q12 := be_t Q12 | replace Q12 := be_f Q12)
                have hkk : Nxt n t (idxS m ss) m ss r nm kinds s kinds := .inr ⟨bl, hbl, .inl ⟨hrs.1 (by simpa using Q12), rfl⟩⟩
                refine cd_skip ?_
                refine nx_cut (kinds) ⟨(by first | rfl | (refine int_eq ?_; omega)), trivial⟩ (by (iterate 10 refine agr_cons rfl ?_); exact agr_rfl) ?_
                exact ⟨hkk, by omega, (From.rfl_.next E68)⟩
            · (try with_reducible first | replace Q10 := of_decide_eq_true Q10 | replace Q10 := of_decide_eq_false Q10 | replace Q10 := bn_t Q10 | replace Q10 := bn_f Q10)
              (try with_reducible first | replace Q10 := of_decide_eq_true Q10 | replace Q10 := of_decide_eq_false Q10 | replace Q10 := bx_t Q10 | replace Q10 := bx_f Q10 | replace Q10 := be_t Q10 | replace Q10 := be_f Q10)
              have hkk : Nxt n t (idxS m ss) m ss r nm kinds s kinds := hlast.elim (fun a => .inl ⟨hI.none a.2, a.2⟩) (fun ⟨bb, e, _⟩ => absurd e (by omega))
              refine st_gno rfl rfl ?_
              refine st_gno rfl rfl ?_
              refine st_gno rfl rfl ?_
              refine st_gno rfl rfl ?_
              refine st_gno rfl rfl ?_
              refine st_val (ro_pickF (v := .bool _) rfl rfl) ?_
              refine st_nil ?_
              refine nx_then ?_
              refine cd_condF rfl ?_
              refine cd_skip ?_
              refine nx_cut (kinds) ⟨(by first | rfl | (refine int_eq ?_; omega)), trivial⟩ (by (iterate 10 refine agr_cons rfl ?_); exact agr_rfl) ?_
              exact ⟨hkk, by omega, From.rfl_⟩
          · rintro kinds2 ρ13 w13 ⟨hnx, hk2, hF16⟩
            replace ho := ho.kept_from hF16
            replace hnm := hnm.from_ hF16
            replace hnb := hnb.from_ hF16
            replace hxs := hxs.from_ hF16
            replace hzs := Nat.le_trans hzs hF16.size
            obtain ⟨hIn, hLn⟩ := invN_put ht (idx_ord H) H hI hs (by rw [hsi]; exact hir) hnx
            obtain ⟨cn, hcn, hsz, hce⟩ := id hnm
            refine cd_seq ?_
            refine cd_region ?_
            refine st_val (ro_move (v := .slice _ _ _) rfl) ?_
            refine st_val (ro_move (v := .int _ _) rfl) ?_
            refine st_val (ro_move (v := .int _ _) rfl) ?_
            refine st_val (ro_conv32 SufName_s3 SufName_i21 rfl (by omega)) ?_
            refine st_val (ro_indexAddr0 SufName_e51 rfl rfl (by exact hs)) ?_
            refine st_put (v := .int _ _) SufName_z21 rfl rfl rfl (hcn) (by omega) ?_
            intro w14 O16 P16
            have hnm16 := (VJ.put P16 hsz hce hs).congr (fun k _ => updN_row)
            refine st_nil ?_
            refine nx_then ?_
            refine cd_seq ?_
            refine cd_region ?_
            refine st_val (ro_move (v := .slice _ _ _) rfl) ?_
            refine st_val (ro_move (v := .int _ _) rfl) ?_
            refine st_lit1 (v := .int _ _) SufName_q51 rfl rfl rfl ?_
            intro b80 w15 E80 hb80 hk80
            have hll := hol.len_le
            have ho16 := own_only3 ho O16 (fun k hk => by have := (own_at ho k hk).1; omega)
            refine st_appendB (base := z) SufName_q51 rfl (by decide) rfl (A := A2) (xs := ol.map fun x : Nat => jV (x : Nat)) (news := [jV (i : Nat)]) (ho16.kept_from E80) (Nat.le_trans (by rw [O16.size]; exact hzs) E80.size) rfl rfl (fun _ => ⟨b80, 0, rfl, hk80.whole⟩) (fun h => by cases h) (by simp [Value.oneCell']) (by omega) (by omega) ?_
            intro A81 c81 w16 ho81 hg81
            have HB81 : From w w16 := ((((hB.next hF16).only O16 (hg40)).next E80)).grew hg81 (fun k hk => Nat.le_trans hwz (own_at ho16 k hk).1)
            have hne : ∀ q, A2.map (·.block) = some q → z ≤ q := fun q hq => (own_at ho16 q hq).1
            have hnm17 := (hnm16.from_ E80).grown hg81 (fun q hq => by have := hne q hq; omega)
            have hnb17 := ((hnb.only O16 (by omega)).from_ E80).grown hg81 (fun q hq => by have := hne q hq; omega)
            have hxs17 := ((hxs.only O16 (by omega)).from_ E80).grown hg81 (fun q hq => by have := hne q hq; omega)
            have hzs17 : z ≤ (w16).heap.size := Nat.le_trans (Nat.le_trans (by rw [O16.size]; exact hzs) E80.size) hg81.size
            refine st_val (ro_assign (v := .slice _ _ _) rfl) ?_
            refine st_nil ?_
            refine nx_then ?_
            refine cd_region ?_
            refine st_val (ro_move (v := .int _ _) rfl) ?_
            refine st_val (ro_assign (v := .int _ _) rfl) ?_
            refine st_nil ?_
            refine nx_block ?_
            refine nx_cut ((ol ++ [i], A81, c81, updN nm s kinds2, kinds2, ((s : Nat) : Int))) ⟨(by show Value.slice A81 (ol.length + 1) c81 = Value.slice A81 (ol ++ [i]).length c81; rw [List.length_append]; rfl), rfl, rfl, trivial⟩ (by (iterate 38 refine agr_cons rfl ?_); exact agr_rfl) ?_
            refine ⟨hIn, .inr ⟨s, rfl, hLn⟩, hol.put ht (idx_ord H) hls hir, by omega, ?_, hnm17, hnb17, hxs17, hzs17, HB81⟩
            rw [List.length_append, List.map_append]
            exact ho81
      · rintro ⟨ol', A2', c2', nm', kinds', last'⟩ ρ17 w17 ⟨hI', hlast', hol', hkr', ho', hnm', hnb', hxs', hzs', hB⟩
        refine cd_region ?_
        refine st_val (ro_addN (b := 1) rfl rfl (by omega)) ?_
        refine st_val (ro_move (v := .int _ _) rfl) ?_
        refine st_nil ?_
        refine nx_cut ((r + 1, ol', A2', c2', nm', kinds', last')) ⟨(by first | rfl | (refine int_eq ?_; omega)), (by first | rfl | (refine int_eq ?_; omega)), (by first | rfl | (refine int_eq ?_; omega)), (by first | rfl | (refine int_eq ?_; omega)), trivial⟩ (by (iterate 82 refine agr_cons rfl ?_); exact agr_rfl) ⟨?_, ?_⟩
        · exact ⟨by omega, hI', hlast', hol', hkr', ho'.kept_from From.rfl_, hnm'.from_ From.rfl_, hnb'.from_ From.rfl_, hxs'.from_ From.rfl_, Nat.le_trans hzs' (From.rfl_).size, hB⟩
        · show n - (r + 1) < n - r; omega
    · (try with_reducible first | replace Q8 := of_decide_eq_true Q8 | replace Q8 := of_decide_eq_false Q8 | replace Q8 := bn_t Q8 | replace Q8 := bn_f Q8)
      (try with_reducible first | replace Q8 := of_decide_eq_true Q8 | replace Q8 := of_decide_eq_false Q8 | replace Q8 := bx_t Q8 | replace Q8 := bx_f Q8 | replace Q8 := be_t Q8 | replace Q8 := be_f Q8)
      refine cd_exit ?_
      refine ex_then ?_
      refine ex_then ?_
      refine ex_block ?_
      refine nx_then ?_
      refine cd_seq ?_
      refine cd_region ?_
      refine st_val (ro_move (v := .slice _ _ _) rfl) ?_
      refine st_val (ro_move (v := .slice _ _ _) rfl) ?_
      refine st_val (ro_move (v := .int _ _) rfl) ?_
      refine st_val (ro_addN (b := 1) rfl rfl (by omega)) ?_
      refine st_val (ro_assign (v := .slice _ _ _) rfl) ?_
      refine st_val (ro_assign (v := .slice _ _ _) rfl) ?_
      refine st_val (ro_assign (v := .int _ _) rfl) ?_
      refine st_nil ?_
      refine nx_then ?_
      refine cd_ret ?_
      refine res3 (v := .slice _ _ _) (v' := .slice _ _ _) (v'' := .int _ _) rfl rfl rfl rfl ?_
      obtain rfl : r = n := by omega
      exact ⟨⟨idxS m ss, ol, A2, c2, b40, nm, kinds, rfl, (RowOf.own (l := ol.map fun x : Nat => (x : Int)) (by rw [List.map_map]; exact ho.kept_from From.rfl_)).2, hg40, hnm.from_ From.rfl_, hI, idx_ord H, hol, hkr⟩, hB⟩
end Go.Proofs.Ytpafbgdbjambgaa
