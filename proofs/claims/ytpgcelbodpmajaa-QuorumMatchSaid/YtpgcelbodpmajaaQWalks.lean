/- slices.Min, Sorted; quorum.Index, Enough; the references. -/
import Derived.Test.YtpgcelbodpmajaaQMath
import Derived.Test.YtpgcelbodpmajaaQSeq
import Derived.Test.YtpgcelbodpmajaaShelf
import Derived.Sort.OwnSortedInts
namespace Go.Proofs.Ytpgcelbodpmajaa
open Go.RowKit
open Go.ChangeShapes Go.WideShapes Go.ChangeAt
theorem QWalks_l23 : (elemQ Try.prog 23).isSome = true := by kernel_rfl
theorem QWalks_e23 : elemQ Try.prog 23 = some (3, 1) := by kernel_rfl
theorem QWalks_g3 : aggQ Try.prog 3 = some false := by kernel_rfl
theorem QWalks_k23 : callable Try.prog 23 = true := by kernel_rfl
theorem QWalks_k20 : callable Try.prog 20 = true := by kernel_rfl
theorem QWalks_k21 : callable Try.prog 21 = true := by kernel_rfl
theorem QWalks_k17 : callable Try.prog 17 = true := by kernel_rfl
theorem QWalks_k19 : callable Try.prog 19 = true := by kernel_rfl
theorem QWalks_k18 : callable Try.prog 18 = true := by kernel_rfl
set_option maxRecDepth 100000 in
set_option maxHeartbeats 400000 in
theorem min_rt (A : Option Addr) (c : Nat) (L : List Int) (w : World) (hr : RowOf iV w A L) (hn : 1 ≤ L.length) (hl : L.length ≤ 1000000) :
    Rt Try.prog 17 [.slice A L.length c] w (fun v w' => (∃ m, v = .int .i64 m ∧ m ∈ L ∧ ∀ x ∈ L, m ≤ x) ∧ w = w') := by
  obtain ⟨ba, oa, rfl, hca⟩ := hr (by omega)
  refine enter (n := 25) Try.func17 rfl rfl rfl ?_
  refine cd_seq ?_
  refine cd_region ?_
  refine st_val (ro_assign (v := .int _ _) rfl) ?_
  refine st_nil ?_
  refine nx_then ?_
  refine cd_seq ?_
  refine cd_seq ?_
  refine cd_region ?_
  refine st_val (ro_move (v := .slice _ _ _) rfl) ?_
  refine st_val (ro_len QWalks_l23 rfl) ?_
  refine st_val (ro_bf (ro_lss rfl rfl) (decide_eq_false (by omega))) ?_
  refine st_nil ?_
  refine nx_then ?_
  refine cd_condF rfl ?_
  refine cd_skip ?_
  refine nx_then ?_
  refine cd_seq ?_
  refine cd_region ?_
  refine st_val (ro_move (v := .slice _ _ _) rfl) ?_
  refine st_val (ro_indexAddr1 (i := 0) QWalks_e23 rfl rfl (by omega)) ?_
  refine st_val (ro_load QWalks_g3 rfl (by exact hca 0 (by omega))) ?_
  refine st_val (ro_assign (v := .int _ _) rfl) ?_
  refine st_nil ?_
  refine nx_then ?_
  refine cd_seq ?_
  refine cd_seq ?_
  refine cd_region ?_
  refine st_val (ro_assign (v := .int _ _) rfl) ?_
  refine st_nil ?_
  refine nx_then ?_
  refine cd_block ?_
  refine cd_loop (G := Int × Nat) [12, 13, 14, 15, 16, 17, 18, 19, 20, 21, 22, 23] (fun (m, k) => [(3, .int .i64 m), (4, .int .i64 (k : Nat))]) (fun (m, k) w' => 1 ≤ k ∧ k ≤ L.length ∧ m ∈ L ∧ (∀ i (h : i < L.length), i < k → m ≤ L[i]) ∧ w = w') (fun (_, k) => L.length - k) ((L[0], 1)) ⟨rfl, rfl, trivial⟩ ?_ ?_
  · exact ⟨Nat.le_refl _, hn, List.getElem_mem _, fun i h h0 => by (obtain rfl : i = 0 := by omega); exact Int.le_refl _, rfl⟩
  rintro ⟨m, k⟩ ρ1 w1 ⟨hk1, hk, hm, hle, rfl⟩
  refine cd_seq ?_
  refine cd_seq ?_
  refine cd_region ?_
  refine st_val (ro_move (v := .int _ _) rfl) ?_
  refine st_val (ro_move (v := .slice _ _ _) rfl) ?_
  refine st_val (ro_len QWalks_l23 rfl) ?_
  refine st_val (ro_lss rfl rfl) ?_
  refine st_nil ?_
  refine nx_then ?_
  refine cd_cond rfl (fun Q2 => ?_) (fun Q2 => ?_)
  · (try first | replace Q2 := bn_t Q2 | replace Q2 := bn_f Q2)
    (try first | replace Q2 := bx_t Q2 | replace Q2 := bx_f Q2 | replace Q2 := be_t Q2 | replace Q2 := be_f Q2 | replace Q2 := of_decide_eq_true Q2 | replace Q2 := of_decide_eq_false Q2)
    first
     | (exfalso; first | omega | contradiction | (cases Q2; done))
     | skip
       refine cd_skip ?_
       refine nx_then ?_
       refine cd_seq ?_
       refine cd_block ?_
       refine cd_region ?_
       refine st_val (ro_move (v := .int _ _) rfl) ?_
       refine st_val (ro_move (v := .slice _ _ _) rfl) ?_
       refine st_val (ro_move (v := .int _ _) rfl) ?_
       refine st_val (ro_indexAddr1 QWalks_e23 rfl rfl (by omega)) ?_
       refine st_val (ro_load QWalks_g3 rfl (by exact hca k (by omega))) ?_
       refine st_val (ro_min rfl rfl) ?_
       refine st_val (ro_assign (v := .int _ _) rfl) ?_
       refine st_nil ?_
       refine nx_block ?_
       refine nx_then ?_
       refine cd_region ?_
       refine st_val (ro_move (v := .int _ _) rfl) ?_
       refine st_val (ro_addN (b := 1) rfl rfl (by omega)) ?_
       refine st_val (ro_assign (v := .int _ _) rfl) ?_
       refine st_nil ?_
       refine nx_cut ((min m L[k], k + 1)) ⟨(by first | rfl | (refine int_eq ?_; omega)), (by first | rfl | (refine int_eq ?_; omega)), trivial⟩ (by (iterate 28 refine agr_cons rfl ?_); exact agr_rfl) ⟨?_, ?_⟩
       · refine ⟨by omega, by omega, ?_, fun i h h0 => ?_, rfl⟩
         · rcases Int.le_total m L[k] with a | a
           · rw [Int.min_eq_left a]; exact hm
           · rw [Int.min_eq_right a]; exact List.getElem_mem _
         · rcases Nat.lt_or_ge i k with a | a
           · have := hle i h a
             omega
           · obtain rfl : i = k := by omega
             omega
       · show _ - _ < _ - _; omega
  · (try first | replace Q2 := bn_t Q2 | replace Q2 := bn_f Q2)
    (try first | replace Q2 := bx_t Q2 | replace Q2 := bx_f Q2 | replace Q2 := be_t Q2 | replace Q2 := be_f Q2 | replace Q2 := of_decide_eq_true Q2 | replace Q2 := of_decide_eq_false Q2)
    first
     | (exfalso; first | omega | contradiction | (cases Q2; done))
     | skip
       refine cd_exit ?_
       refine ex_then ?_
       refine ex_then ?_
       refine ex_block ?_
       refine nx_then ?_
       refine cd_seq ?_
       refine cd_region ?_
       refine st_val (ro_move (v := .int _ _) rfl) ?_
       refine st_val (ro_assign (v := .int _ _) rfl) ?_
       refine st_nil ?_
       refine nx_then ?_
       refine cd_ret ?_
       refine res1 (v := .int _ _) rfl rfl ?_
       obtain rfl : k = L.length := by omega
       exact ⟨⟨m, rfl, hm, fun x hx => by obtain ⟨i, hi, rfl⟩ := List.getElem_of_mem hx; exact hle i hi hi⟩, rfl⟩
set_option maxRecDepth 100000 in
set_option maxHeartbeats 400000 in
theorem values_rt (A : Option Addr) (n c : Nat) (w : World) :
    Rt Try.prog 19 [.slice A n c] w (fun v w' => (∃ Bs, v = .func (.func 22) #[] #[.pointer (some ⟨Bs, 0, none⟩)] ∧ w'.cell? ⟨Bs, 0, none⟩ = some (.slice A n c) ∧ Bs < w'.heap.size) ∧ From w w') := by
  refine enter (n := 4) Try.func19 rfl rfl rfl ?_
  refine cd_seq ?_
  refine cd_region ?_
  refine st_box (v := .slice _ _ _) rfl ?_
  intro b1 w1 E1 hb1 hk1
  refine st_val (ro_assign (v := .nilFunc) rfl) ?_
  refine st_nil ?_
  refine nx_then ?_
  refine cd_seq ?_
  refine cd_region ?_
  refine st_val (ro_makeFunc (l1 := []) (l2 := [.tmp 1])) ?_
  refine st_val (ro_assign (v := .func _ _ _) rfl) ?_
  refine st_nil ?_
  refine nx_then ?_
  refine cd_ret ?_
  refine res1 (v := .func _ _ _) rfl rfl ?_
  exact ⟨⟨b1, rfl, (hk1.from_ From.rfl_).rd 0 rfl, (hk1.from_ From.rfl_).lt⟩, (From.rfl_.next E1)⟩
set_option maxRecDepth 100000 in
set_option maxHeartbeats 400000 in
theorem collect_rt (Bs b off cap : Nat) (L : List Int) (w : World) (hL : L.length ≤ 1000000) (hb : b < w.heap.size) (hBs : Bs < w.heap.size) (hs : w.cell? ⟨Bs, 0, none⟩ = some (.slice (some ⟨b, off, none⟩) L.length cap)) (hc : ∀ j (h : j < L.length), w.cell? ⟨b, off + j, none⟩ = some (.int .i64 L[j])) :
    Rt Try.prog 20 [.func (.func 22) #[] #[.pointer (some ⟨Bs, 0, none⟩)]] w (fun v w' => (∃ A c, v = .slice A L.length c ∧ w'.ownsRow w.heap.size 3 1 (.slice A L.length c) L.length (L.map iV)) ∧ From w w') := by
  refine enter (n := 5) Try.func20 rfl rfl rfl ?_
  refine cd_seq ?_
  refine cd_region ?_
  refine st_val (ro_assign (v := .slice _ _ _) rfl) ?_
  refine st_nil ?_
  refine nx_then ?_
  refine cd_seq ?_
  refine cd_region ?_
  refine st_val (ro_move (v := .func _ _ _) rfl) ?_
  refine st_call QWalks_k23 (appendSeq_rt Bs b off cap L _ hL hb hBs hs hc) ?_
  rintro v4 w1 ⟨⟨A4, c4, rfl, ho4⟩, E4⟩
  refine st_val (ro_assign (v := .slice _ _ _) rfl) ?_
  refine st_nil ?_
  refine nx_then ?_
  refine cd_ret ?_
  refine res1 (v := .slice _ _ _) rfl rfl ?_
  exact ⟨⟨A4, c4, rfl, ho4⟩, (From.rfl_.next E4)⟩
theorem sort_own (base c : Nat) (A : Option Addr) (L : List Int) (w : World) (ho : w.ownsRow base 3 1 (.slice A L.length c) L.length (L.map iV)) (hn : 1 ≤ L.length) (hl : L.length ≤ 1000000) :
    Rt Try.prog 21 [.slice A L.length c] w fun _ w' => w'.ownsRow base 3 1 (.slice A L.length c) L.length ((srt L).map iV) ∧ w.grownBy w' (A.map (·.block)) := by
  rcases ho.2 with ⟨_, hz⟩ | ⟨g, cap, cur, hv, hbase, hb, h1, h2, h3, h4⟩
  · omega
  · simp only [Value.slice.injEq] at hv
    obtain ⟨rfl, _, rfl⟩ := hv
    refine Calls.mono (Try.slices_Sort_int g 0 c L w (holds_of_blockI hb (by simpa using h4)) (Array.getElem?_eq_some_iff.1 hb).1 (by omega)) fun e w' ⟨he, n, os, hw⟩ => ⟨_, he, ?_, ?_⟩
    · rw [hw]; exact ownsRow_sortedI (srt_len L) hbase hb h1 h2 h3
    · rw [hw]; exact grownBy_sortedI _
set_option maxRecDepth 100000 in
set_option maxHeartbeats 400000 in
theorem sorted_rt (Bs b off cap : Nat) (L : List Int) (w : World) (hL : L.length ≤ 1000000) (hb : b < w.heap.size) (hBs : Bs < w.heap.size) (hs : w.cell? ⟨Bs, 0, none⟩ = some (.slice (some ⟨b, off, none⟩) L.length cap)) (hc : ∀ j (h : j < L.length), w.cell? ⟨b, off + j, none⟩ = some (.int .i64 L[j])) (hn : 1 ≤ L.length) :
    Rt Try.prog 18 [.func (.func 22) #[] #[.pointer (some ⟨Bs, 0, none⟩)]] w (fun v w' => (∃ A c, v = .slice A L.length c ∧ w'.ownsRow w.heap.size 3 1 (.slice A L.length c) L.length ((srt L).map iV)) ∧ From w w') := by
  refine enter (n := 9) Try.func18 rfl rfl rfl ?_
  refine cd_seq ?_
  refine cd_region ?_
  refine st_val (ro_assign (v := .slice _ _ _) rfl) ?_
  refine st_nil ?_
  refine nx_then ?_
  refine cd_seq ?_
  refine cd_region ?_
  refine st_val (ro_move (v := .func _ _ _) rfl) ?_
  refine st_call QWalks_k20 (collect_rt Bs b off cap L _ hL hb hBs hs hc) ?_
  rintro v5 w1 ⟨⟨A5, c5, rfl, ho5⟩, E5⟩
  refine st_val (ro_assign (v := .slice _ _ _) rfl) ?_
  refine st_nil ?_
  refine nx_then ?_
  refine cd_seq ?_
  refine cd_region ?_
  refine st_val (ro_move (v := .slice _ _ _) rfl) ?_
  refine st_call QWalks_k21 (sort_own _ c5 A5 L _ ho5 hn hL) ?_
  rintro v7 w2 ⟨ho7, hg7⟩
  refine st_nil ?_
  refine nx_then ?_
  refine cd_seq ?_
  refine cd_region ?_
  refine st_val (ro_move (v := .slice _ _ _) rfl) ?_
  refine st_val (ro_assign (v := .slice _ _ _) rfl) ?_
  refine st_nil ?_
  refine nx_then ?_
  refine cd_ret ?_
  refine res1 (v := .slice _ _ _) rfl rfl ?_
  exact ⟨⟨A5, c5, rfl, ho7⟩, ((From.rfl_.next E5).grew hg7 (fun k hk => (own_at ho5 k hk).1))⟩
def IdxGot (L : List Int) (v : Value) : Prop := (Fit L ∧ v = .tuple #[.int .i64 (med L), .int .i64 0]) ∨ (¬ Fit L ∧ v = .tuple #[.int .i64 0, .int .i64 1])
set_option maxRecDepth 100000 in
set_option maxHeartbeats 400000 in
theorem index_rt (A : Option Addr) (c : Nat) (L : List Int) (w : World) (hr : RowOf iV w A L) :
    Rt Try.prog 13 [.slice A L.length c] w (fun v w' => IdxGot L v ∧ From w w') := by
  refine enter (n := 28) Try.func13 rfl rfl rfl ?_
  refine cd_seq ?_
  refine cd_region ?_
  refine st_val (ro_assign (v := .int _ _) rfl) ?_
  refine st_val (ro_assign (v := .int _ _) rfl) ?_
  refine st_nil ?_
  refine nx_then ?_
  refine cd_seq ?_
  refine cd_seq ?_
  refine cd_region ?_
  refine st_val (ro_move (v := .slice _ _ _) rfl) ?_
  refine st_val (ro_len QWalks_l23 rfl) ?_
  refine st_val (ro_lss rfl rfl) ?_
  refine st_val (ro_move (v := .bool _) rfl) ?_
  refine st_split (t := 8) rfl (fun Q1 => ?_) (fun Q1 => ?_)
  · (try first | replace Q1 := bn_t Q1 | replace Q1 := bn_f Q1)
    (try first | replace Q1 := bx_t Q1 | replace Q1 := bx_f Q1 | replace Q1 := be_t Q1 | replace Q1 := be_f Q1 | replace Q1 := of_decide_eq_true Q1 | replace Q1 := of_decide_eq_false Q1)
    first
     | (exfalso; first | omega | contradiction | (cases Q1; done))
     | skip
       refine st_gno rfl rfl ?_
       refine st_gno rfl rfl ?_
       refine st_gno rfl rfl ?_
       refine st_val (ro_pickT (v := .bool _) rfl rfl) ?_
       refine st_val (ro_move (v := .bool _) rfl) ?_
       refine st_gno rfl rfl ?_
       refine st_gno rfl rfl ?_
       refine st_gno rfl rfl ?_
       refine st_val (ro_pickT (v := .bool _) rfl rfl) ?_
       refine st_nil ?_
       refine nx_then ?_
       refine cd_condT rfl ?_
       refine cd_seq ?_
       refine cd_region ?_
       refine st_val (ro_assign (v := .int _ _) rfl) ?_
       refine st_val (ro_assign (v := .int _ _) rfl) ?_
       refine st_nil ?_
       refine nx_then ?_
       refine cd_ret ?_
       refine rt_then ?_
       refine res2 (v := .int _ _) (v' := .int _ _) rfl rfl rfl ?_
       refine ⟨.inr ⟨fun hf => ?_, rfl⟩, From.rfl_⟩
       obtain ⟨f1, f2, f3⟩ := hf
       first
         | omega
         | (have := f3 _ hm15; omega)
  · (try first | replace Q1 := bn_t Q1 | replace Q1 := bn_f Q1)
    (try first | replace Q1 := bx_t Q1 | replace Q1 := bx_f Q1 | replace Q1 := be_t Q1 | replace Q1 := be_f Q1 | replace Q1 := of_decide_eq_true Q1 | replace Q1 := of_decide_eq_false Q1)
    first
     | (exfalso; first | omega | contradiction | (cases Q1; done))
     | skip
       refine st_unguard rfl ?_
       refine st_val (ro_move (v := .slice _ _ _) rfl) ?_
       refine st_unguard rfl ?_
       refine st_val (ro_len QWalks_l23 rfl) ?_
       refine st_unguard rfl ?_
       refine st_val (ro_gtr rfl rfl) ?_
       refine st_val (ro_pickF (v := .bool _) rfl rfl) ?_
       refine st_val (ro_move (v := .bool _) rfl) ?_
       refine st_split (t := 13) rfl (fun Q2 => ?_) (fun Q2 => ?_)
       · (try first | replace Q2 := bn_t Q2 | replace Q2 := bn_f Q2)
         (try first | replace Q2 := bx_t Q2 | replace Q2 := bx_f Q2 | replace Q2 := be_t Q2 | replace Q2 := be_f Q2 | replace Q2 := of_decide_eq_true Q2 | replace Q2 := of_decide_eq_false Q2)
         first
          | (exfalso; first | omega | contradiction | (cases Q2; done))
          | skip
            refine st_gno rfl rfl ?_
            refine st_gno rfl rfl ?_
            refine st_gno rfl rfl ?_
            refine st_val (ro_pickT (v := .bool _) rfl rfl) ?_
            refine st_nil ?_
            refine nx_then ?_
            refine cd_condT rfl ?_
            refine cd_seq ?_
            refine cd_region ?_
            refine st_val (ro_assign (v := .int _ _) rfl) ?_
            refine st_val (ro_assign (v := .int _ _) rfl) ?_
            refine st_nil ?_
            refine nx_then ?_
            refine cd_ret ?_
            refine rt_then ?_
            refine res2 (v := .int _ _) (v' := .int _ _) rfl rfl rfl ?_
            refine ⟨.inr ⟨fun hf => ?_, rfl⟩, From.rfl_⟩
            obtain ⟨f1, f2, f3⟩ := hf
            first
              | omega
              | (have := f3 _ hm15; omega)
       · (try first | replace Q2 := bn_t Q2 | replace Q2 := bn_f Q2)
         (try first | replace Q2 := bx_t Q2 | replace Q2 := bx_f Q2 | replace Q2 := be_t Q2 | replace Q2 := be_f Q2 | replace Q2 := of_decide_eq_true Q2 | replace Q2 := of_decide_eq_false Q2)
         first
          | (exfalso; first | omega | contradiction | (cases Q2; done))
          | skip
            refine st_unguard rfl ?_
            refine st_val (ro_move (v := .slice _ _ _) rfl) ?_
            refine st_unguard rfl ?_
            refine st_call QWalks_k17 (min_rt A c L _ (hr.from_ From.rfl_) (by omega) (by omega)) ?_
            rintro v15 w3 ⟨⟨m15, rfl, hm15, hle15⟩, rfl⟩
            refine st_unguard rfl ?_
            refine st_val (ro_lss rfl rfl) ?_
            refine st_val (ro_pickF (v := .bool _) rfl rfl) ?_
            refine st_nil ?_
            refine nx_then ?_
            refine cd_cond rfl (fun Q4 => ?_) (fun Q4 => ?_)
            · (try first | replace Q4 := bn_t Q4 | replace Q4 := bn_f Q4)
              (try first | replace Q4 := bx_t Q4 | replace Q4 := bx_f Q4 | replace Q4 := be_t Q4 | replace Q4 := be_f Q4 | replace Q4 := of_decide_eq_true Q4 | replace Q4 := of_decide_eq_false Q4)
              first
               | (exfalso; first | omega | contradiction | (cases Q4; done))
               | skip
                 refine cd_seq ?_
                 refine cd_region ?_
                 refine st_val (ro_assign (v := .int _ _) rfl) ?_
                 refine st_val (ro_assign (v := .int _ _) rfl) ?_
                 refine st_nil ?_
                 refine nx_then ?_
                 refine cd_ret ?_
                 refine rt_then ?_
                 refine res2 (v := .int _ _) (v' := .int _ _) rfl rfl rfl ?_
                 refine ⟨.inr ⟨fun hf => ?_, rfl⟩, From.rfl_⟩
                 obtain ⟨f1, f2, f3⟩ := hf
                 first
                   | omega
                   | (have := f3 _ hm15; omega)
            · (try first | replace Q4 := bn_t Q4 | replace Q4 := bn_f Q4)
              (try first | replace Q4 := bx_t Q4 | replace Q4 := bx_f Q4 | replace Q4 := be_t Q4 | replace Q4 := be_f Q4 | replace Q4 := of_decide_eq_true Q4 | replace Q4 := of_decide_eq_false Q4)
              first
               | (exfalso; first | omega | contradiction | (cases Q4; done))
               | skip
                 refine cd_skip ?_
                 refine nx_then ?_
                 refine cd_seq ?_
                 refine cd_region ?_
                 refine st_val (ro_move (v := .slice _ _ _) rfl) ?_
                 have hfit : Fit L := ⟨by omega, by omega, fun x hx => by have := hle15 x hx; omega⟩
                 obtain ⟨ba, oa, rfl, hca⟩ := hr (by omega)
                 refine st_call QWalks_k19 (values_rt _ L.length c _) ?_
                 rintro v19 w5 ⟨⟨Bs, rfl, hs19, hl19⟩, E19⟩
                 refine st_call QWalks_k18 (sorted_rt Bs ba oa c L _ (by omega) (by have := World.block_lt_of_cell? _ _ (hca 0 (by omega)); have := E19.size; exact Nat.lt_of_lt_of_le ‹_› ‹_›) hl19 hs19 (fun j h => cellF (From.rfl_.next E19) (hca j h)) (by omega)) ?_
                 rintro v20 w6 ⟨⟨A20, c20, rfl, ho20⟩, E20⟩
                 obtain ⟨g20, rfl⟩ := own_some ho20 (by omega)
                 refine st_val (ro_assign (v := .slice _ _ _) rfl) ?_
                 refine st_nil ?_
                 refine nx_then ?_
                 refine cd_seq ?_
                 refine cd_region ?_
                 refine st_val (ro_move (v := .slice _ _ _) rfl) ?_
                 refine st_val (ro_move (v := .slice _ _ _) rfl) ?_
                 refine st_val (ro_len QWalks_l23 rfl) ?_
                 refine st_val (ro_subN (b := 1) rfl rfl (by omega)) ?_
                 refine st_val (ro_quoN (b := 2) rfl rfl (by omega)) ?_
                 refine st_val (ro_indexAddr0 QWalks_e23 rfl rfl (by omega)) ?_
                 refine st_val (ro_load QWalks_g3 rfl (by have h27 := own_cell (l := srt L) ho20 ((L.length - 1) / 2) (by rw [srt_len]; omega); exact h27)) ?_
                 refine st_val (ro_assign (v := .int _ _) rfl) ?_
                 refine st_val (ro_assign (v := .int _ _) rfl) ?_
                 refine st_nil ?_
                 refine nx_then ?_
                 refine cd_ret ?_
                 refine res2 (v := .int _ _) (v' := .int _ _) rfl rfl rfl ?_
                 obtain ⟨h2, e⟩ := med_at hfit.1
                 exact ⟨.inl ⟨hfit, by rw [e]⟩, ((From.rfl_.next E19).next E20)⟩
end Go.Proofs.Ytpgcelbodpmajaa
