/- session: Open; the reference: Open. -/
import Derived.Test.YtbikemhokgcboaaSesArg2
namespace Go.Proofs.Ytbikemhokgcboaa
open Go.RowKit
open Go.ChangeShapes Go.WideShapes Go.ChangeAt
theorem SesOpen_q22 : litQ Try.prog 22 = some (60, 6, 64, (.agg #[.int .i64 0, .int .i64 0, .int .i64 0, .int .i64 0, .slice none 0 0, .int .i64 0])) := by kernel_rfl
theorem SesOpen_e22 : elemQ Try.prog 22 = some (60, 6) := by kernel_rfl
theorem SesOpen_g3 : aggQ Try.prog 3 = some false := by kernel_rfl
theorem SesOpen_l22 : (elemQ Try.prog 22).isSome = true := by kernel_rfl
theorem SesOpen_g60 : aggQ Try.prog 60 = some true := by kernel_rfl
theorem SesOpen_z60 : sizeQ Try.prog 60 = some 6 := by kernel_rfl
theorem SesOpen_o60 : zeroQ Try.prog 60 = some (.agg #[.int .i64 0, .int .i64 0, .int .i64 0, .int .i64 0, .slice none 0 0, .int .i64 0]) := by kernel_rfl
theorem SesOpen_f60_3 : fieldQ Try.prog 60 3 = some 5 := by kernel_rfl
theorem SesOpen_k13 : callable Try.prog 13 = true := by kernel_rfl
theorem SesOpen_q55 : litQ Try.prog 55 = some (3, 1, 8, (.int .i64 0)) := by kernel_rfl
theorem SesOpen_k37 : callable Try.prog 37 = true := by kernel_rfl
theorem SesOpen_k38 : callable Try.prog 38 = true := by kernel_rfl
theorem SesOpen_k42 : callable Try.prog 42 = true := by kernel_rfl
theorem SesOpen_k46 : callable Try.prog 46 = true := by kernel_rfl
theorem SesOpen_k45 : callable Try.prog 45 = true := by kernel_rfl
theorem SesOpen_b60_0_3 : ∀ (a0 : Int) (a1 : Int), Try.prog.built 60 [(0, .int .i64 a0), (3, .int .i64 a1)] = some #[.int .i64 a0, .int .i64 0, .int .i64 0, .int .i64 0, .slice none 0 0, .int .i64 a1] := by intros; kernel_rfl
theorem SesOpen_k47 : callable Try.prog 47 = true := by kernel_rfl
def isLeast (L : List Ses) (k : Nat) : Prop := ∃ h : k < L.length, (∀ j (hj : j < L.length), j < k → L[k].u < L[j].u) ∧ (∀ j (hj : j < L.length), L[k].u ≤ L[j].u)
def EvictGot (M M' : List Ses) : Prop := (M.length ≠ 8 ∧ M' = M) ∨ (M.length = 8 ∧ ∃ k, isLeast M k ∧ M' = M.take k ++ M.drop (k + 1))
def newS (t : Int) : Ses := ⟨t, 0, 0, 0, none, 0, 0, t⟩
def StandAt (M : List Ses) (t : Int) (i : Nat) : Prop := i ≤ M.length ∧ (∀ j (h : j < M.length), j < i → M[j].c < t) ∧ (∀ j (h : j < M.length), i ≤ j → t < M[j].c)
def mayO (L : List Ses) (t : Int) : Prop := inE 1 t = true ∧ ∀ j (h : j < L.length), L[j].c ≠ t
def OpenGot (L : List Ses) (t : Int) (K : List Ses) (err : Int) : Prop := (¬ mayO L t ∧ K = [] ∧ err = 1) ∨ (mayO L t ∧ err = 0 ∧ ∃ M' i, EvictGot (L.map norm) M' ∧ StandAt M' t i ∧ K = M'.take i ++ [newS t] ++ M'.drop i)
theorem least_one {L : List Ses} {k k' : Nat} (h : isLeast L k) (h' : isLeast L k') : k' = k := by
  obtain ⟨a, b, c⟩ := h
  obtain ⟨a', b', c'⟩ := h'
  rcases Nat.lt_trichotomy k k' with x | x | x
  · have := b' k a x; have := c k' a'; omega
  · exact x.symm
  · have := b k' a' x; have := c' k a; omega
theorem evict_one {M M1 M2 : List Ses} (h : EvictGot M M1) (h' : EvictGot M M2) : M2 = M1 := by
  rcases h with ⟨a, b⟩ | ⟨a, k, b, c⟩
  · rcases h' with ⟨a', b'⟩ | ⟨a', _⟩
    · exact b'.trans b.symm
    · exact absurd a' a
  · rcases h' with ⟨a', _⟩ | ⟨a', k', b', c'⟩
    · exact absurd a a'
    · obtain rfl := least_one b b'
      exact c'.trans c.symm
theorem at_one {M : List Ses} {t : Int} {i i' : Nat} (h : StandAt M t i) (h' : StandAt M t i') : i' = i := by
  obtain ⟨a, b, c⟩ := h
  obtain ⟨a', b', c'⟩ := h'
  rcases Nat.lt_trichotomy i i' with x | x | x
  · have := b' i (by omega) x; have := c i (by omega) (Nat.le_refl _); omega
  · exact x.symm
  · have := b i' (by omega) x; have := c' i' (by omega) (Nat.le_refl _); omega
theorem open_one {L K K' : List Ses} {t err err' : Int} (h : OpenGot L t K err) (h' : OpenGot L t K' err') : K' = K ∧ err' = err := by
  rcases h with ⟨a, b, c⟩ | ⟨a, b, M, i, c, d, e⟩
  · rcases h' with ⟨a', b', c'⟩ | ⟨a', _⟩
    · exact ⟨b'.trans b.symm, c'.trans c.symm⟩
    · exact absurd a' a
  · rcases h' with ⟨a', _⟩ | ⟨a', b', M', i', c', d', e'⟩
    · exact absurd a a'
    · obtain rfl := evict_one c c'
      obtain rfl := at_one d d'
      exact ⟨e'.trans e.symm, b'.trans b.symm⟩
theorem evict_mem {M M' : List Ses} (h : EvictGot M M') : (∀ x ∈ M', x ∈ M) ∧ M'.length ≤ M.length := by
  rcases h with ⟨_, rfl⟩ | ⟨_, k, _, rfl⟩
  · exact ⟨fun x h => h, Nat.le_refl _⟩
  · refine ⟨fun x h => ?_, by rw [List.length_append, List.length_take, List.length_drop]; omega⟩
    rcases List.mem_append.1 h with a | a
    · exact List.mem_of_mem_take a
    · exact List.mem_of_mem_drop a
theorem rise_of_sub {M M' : List Ses} (h : M'.Sublist M) (hr : M.Pairwise fun a b => a.c < b.c) : ∀ i j (hi : i < M'.length) (hj : j < M'.length), i < j → M'[i].c < M'[j].c :=
  fun i j hi hj hij => List.pairwise_iff_getElem.1 (hr.sublist h) i j hi hj hij
theorem norm_pair {L : List Ses} (hv : ValidL L) : (L.map norm).Pairwise fun a b => a.c < b.c := by
  rw [List.pairwise_iff_getElem]
  intro i j hi hj hij
  rw [List.getElem_map, List.getElem_map]
  exact valid_rise hv i j (by simpa using hi) (by simpa using hj) hij
theorem evict_sub {M M' : List Ses} (h : EvictGot M M') : M'.Sublist M := by
  rcases h with ⟨_, rfl⟩ | ⟨_, k, _, rfl⟩
  · exact List.Sublist.refl _
  · have h0 : M = M.take k ++ M.drop k := (List.take_append_drop k M).symm
    conv => rhs; rw [h0]
    refine List.Sublist.append (List.Sublist.refl _) ?_
    rw [← List.drop_drop]
    exact List.drop_sublist _ _
theorem evict_rise {L M' : List Ses} (hv : ValidL L) (h : EvictGot (L.map norm) M') : ∀ i j (hi : i < M'.length) (hj : j < M'.length), i < j → M'[i].c < M'[j].c := rise_of_sub (evict_sub h) (norm_pair hv)
theorem evict_ne {L M' : List Ses} {t : Int} (h : EvictGot (L.map norm) M') (hn : ∀ j (h : j < L.length), L[j].c ≠ t) : ∀ j (h : j < M'.length), M'[j].c ≠ t := fun j hj he => by
  obtain ⟨y, hy, hy2⟩ := List.mem_map.1 ((evict_mem h).1 _ (List.getElem_mem hj))
  obtain ⟨i, hi, rfl⟩ := List.getElem_of_mem hy
  rw [← hy2] at he
  exact hn i hi he
theorem evict_hl {L M' : List Ses} (h : EvictGot (L.map norm) M') : ∀ j (h : j < M'.length), M'[j].hl = 0 := fun j hj => norm_hl L _ ((evict_mem h).1 _ (List.getElem_mem hj))
theorem evict_norm {L M' : List Ses} (h : EvictGot (L.map norm) M') : M'.map norm = M' := by
  have : ∀ x ∈ M', norm x = x := fun x hx => by
    obtain ⟨y, _, rfl⟩ := List.mem_map.1 ((evict_mem h).1 x hx)
    rfl
  exact (List.map_congr_left this).trans (List.map_id _)
theorem open_hl {L K : List Ses} {t err : Int} (h : OpenGot L t K err) : (∀ i (h : i < K.length), K[i].hl = 0) ∧ K.length ≤ L.length + 1 := by
  rcases h with ⟨_, rfl, _⟩ | ⟨_, _, M, i, hE, hA, rfl⟩
  · exact ⟨fun i h => absurd h (by simp), by simp⟩
  · have hm : ∀ x ∈ M.take i ++ [newS t] ++ M.drop i, x.hl = 0 := fun x hx => by
      have hM : ∀ x ∈ M, x.hl = 0 := fun x hx => norm_hl L _ ((evict_mem hE).1 _ hx)
      simp only [List.mem_append, List.mem_singleton] at hx
      rcases hx with (a | rfl) | a
      · exact hM x (List.mem_of_mem_take a)
      · rfl
      · exact hM x (List.mem_of_mem_drop a)
    refine ⟨fun j hj => hm _ (List.getElem_mem _), ?_⟩
    have := (evict_mem hE).2
    rw [List.length_map] at this
    rw [List.length_append, List.length_append, List.length_take, List.length_drop]
    simp only [List.length_singleton]
    omega
theorem least_norm {L : List Ses} {k : Nat} : isLeast L k ↔ isLeast (L.map norm) k := by
  have e : ∀ j (h : j < L.length), ((L.map norm)[j]'(by simpa using h)).u = L[j].u := fun j h => by rw [List.getElem_map]; rfl
  constructor
  · rintro ⟨a, b, c⟩
    refine ⟨by simpa using a, fun j hj hk => ?_, fun j hj => ?_⟩
    · rw [e k a, e j (by simpa using hj)]; exact b j _ hk
    · rw [e k a, e j (by simpa using hj)]; exact c j _
  · rintro ⟨a, b, c⟩
    rw [List.length_map] at a
    refine ⟨a, fun j hj hk => ?_, fun j hj => ?_⟩
    · have := b j (by simpa using hj) hk
      rwa [e k a, e j hj] at this
    · have := c j (by simpa using hj)
      rwa [e k a, e j hj] at this
set_option maxRecDepth 100000 in
set_option maxHeartbeats 400000 in
theorem longest_rt (A : Option Addr) (c : Nat) (L : List Ses) (w : World) (hr : RowS w A L) (hl : L.length ≤ 1000) (h0 : 0 < L.length) :
    Rt Try.prog 46 [.slice A L.length c] w (fun v w' => (∃ k : Nat, v = .int .i64 (k : Nat) ∧ isLeast L k) ∧ From w w') := by
  obtain ⟨ba, oa, rfl, hcs⟩ := hr h0
  refine enter (n := 24) Try.func46 rfl rfl rfl ?_
  refine cd_seq ?_
  refine cd_region ?_
  refine st_val (ro_assign (v := .int _ _) rfl) ?_
  refine st_nil ?_
  refine nx_then ?_
  refine cd_seq ?_
  refine cd_region ?_
  refine st_val (ro_assign (v := .int _ _) rfl) ?_
  refine st_nil ?_
  refine nx_then ?_
  refine cd_seq ?_
  refine cd_seq ?_
  refine cd_region ?_
  refine st_val (ro_move (v := .slice _ _ _) rfl) ?_
  refine st_val (ro_len SesOpen_l22 rfl) ?_
  refine st_val (ro_move (v := .int _ _) rfl) ?_
  refine st_nil ?_
  refine nx_then ?_
  refine cd_block ?_
  refine cd_loop (G := Nat × Nat) [4, 5, 9, 10, 11, 12, 13, 14, 15, 16, 17, 18, 19, 20, 21, 22] (fun (l, k) => [(3, .int .i64 (l : Nat)), (8, .int .i64 (k : Nat))]) (fun (l, k) w' => k ≤ L.length ∧ l < L.length ∧ (l < k ∨ l = 0) ∧ (∀ (hl : l < L.length) j (hj : j < L.length), j < l → L[l].u < L[j].u) ∧ (∀ (hl : l < L.length) j (hj : j < L.length), j < k → L[l].u ≤ L[j].u) ∧ From w w') (fun (_, k) => L.length - k) ((0, 0)) ⟨rfl, rfl, trivial⟩ ?_ ?_
  · exact ⟨Nat.zero_le _, h0, .inr rfl, fun _ j _ h => absurd h (by omega), fun _ j _ h => absurd h (by omega), From.rfl_⟩
  rintro ⟨l, k⟩ ρ1 w1 ⟨hk, hlL, hlk, hlo, hle, hB⟩
  refine cd_seq ?_
  refine cd_region ?_
  refine st_val (ro_lss rfl rfl) ?_
  refine st_nil ?_
  refine nx_then ?_
  refine cd_seq ?_
  refine cd_cond rfl (fun Q2 => ?_) (fun Q2 => ?_)
  · (try first | replace Q2 := bn_t Q2 | replace Q2 := bn_f Q2)
    (try first | replace Q2 := bx_t Q2 | replace Q2 := bx_f Q2 | replace Q2 := be_t Q2 | replace Q2 := be_f Q2 | replace Q2 := of_decide_eq_true Q2 | replace Q2 := of_decide_eq_false Q2)
    have hkK : k < L.length := by omega
    first
     | (exfalso; first | omega | contradiction | (cases Q2; done))
     | skip
       refine cd_skip ?_
       refine nx_then ?_
       refine cd_cut (G := Nat) [4, 5, 10, 11, 12, 13, 14, 15, 16, 17, 18, 19, 20, 21] (fun l2 => [(3, .int .i64 (l2 : Nat))]) (fun l w' => l < L.length ∧ (l < k + 1 ∨ l = 0) ∧ (∀ (hl : l < L.length) j (hj : j < L.length), j < l → L[l].u < L[j].u) ∧ (∀ (hl : l < L.length) j (hj : j < L.length), j < k + 1 → L[l].u ≤ L[j].u) ∧ From w w') ?_ ?_
       · refine cd_block ?_
         refine cd_seq ?_
         refine cd_region ?_
         refine st_val (ro_move (v := .int _ _) rfl) ?_
         refine st_val (ro_indexAddrN SesOpen_e22 rfl rfl (by omega)) ?_
         refine st_val (ro_loadA (cs := [_, _, _, _, _, _]) SesOpen_g60 SesOpen_z60 rfl (by exact rangeF hB (hcs k hkK))) ?_
         refine st_alloc SesOpen_o60 ?_
         intro b5 w3 E5 hb5 hk5
         have hg5 : w.heap.size ≤ b5 := by rw [hb5]; exact (hB).size
         refine st_val (ro_assign (v := .int _ _) rfl) ?_
         refine st_putW (vs := [_, _, _, _, _, _]) SesOpen_z60 rfl rfl (by simp [Value.oneCell']) (hk5) rfl ?_
         intro w4 O4 P4
         refine st_nil ?_
         refine nx_then ?_
         refine cd_seq ?_
         apply cd_drawnD 8 [(13, eqp _), (14, eqp (.int .i64 (L[k]'hkK).u)), (15, eqp _), (16, eqp _), (17, eqp _), (18, eqp _), (19, eqp (.int .i64 (L[l]'hlL).u)), (20, eqp _)] (by repeat first | exact pq_body | refine pq_then ?_ | refine pq_block ?_) (by kernel_rfl) (by kernel_rfl) ⟨eqp_mono _, eqp_mono _, eqp_mono _, eqp_mono _, eqp_mono _, eqp_mono _, eqp_mono _, eqp_mono _, trivial⟩
         case hop =>
          refine ⟨?_, ?_⟩
          · rintro - w6 D6
            show OpOK _ _ _ _ _ _ _
            exact ok_pure (ro_fieldAddr SesOpen_f60_3 rfl) rfl
          refine ⟨?_, ?_⟩
          · rintro - w7 D7
            rintro _ rfl
            show OpOK _ _ _ _ _ _ _
            exact ok_pure (ro_load SesOpen_g3 rfl ((P4.from_ D7).rd 5 rfl)) rfl
          refine ⟨?_, ?_⟩
          · rintro - w8 D8
            show OpOK _ _ _ _ _ _ _
            exact ok_pure (ro_move (v := .slice _ _ _) rfl) rfl
          refine ⟨?_, ?_⟩
          · rintro - w9 D9
            show OpOK _ _ _ _ _ _ _
            exact ok_pure (ro_move (v := .int _ _) rfl) rfl
          refine ⟨?_, ?_⟩
          · rintro - w10 D10
            rintro _ rfl _ rfl
            show OpOK _ _ _ _ _ _ _
            exact ok_pure (ro_indexAddrN SesOpen_e22 rfl rfl (by omega)) rfl
          refine ⟨?_, ?_⟩
          · rintro - w11 D11
            rintro _ rfl
            show OpOK _ _ _ _ _ _ _
            exact ok_pure (ro_fieldAddr SesOpen_f60_3 rfl) rfl
          refine ⟨?_, ?_⟩
          · rintro - w12 D12
            rintro _ rfl
            show OpOK _ _ _ _ _ _ _
            exact ok_pure (ro_load SesOpen_g3 rfl (cellF (((hB.next E5).only O4 (hg5)).next D12) (hcs l hlL 5 _ rfl))) rfl
          refine ⟨?_, ?_⟩
          · rintro - w13 D13
            rintro v13_14 rfl v13_19 rfl
            show OpOK _ _ _ _ _ _ _
            exact ok_pure (ro_lss rfl rfl) rfl
          exact trivial
         case hend =>
          intro w14 D14
          rintro _ rfl v14 rfl _ rfl _ rfl _ rfl _ rfl v19 rfl _ rfl
          show St _ _ _ _ _ _ _
          refine st_nil ?_
          refine nx_then ?_
          refine cd_cond rfl (fun Q15 => ?_) (fun Q15 => ?_)
          · (try first | replace Q15 := bn_t Q15 | replace Q15 := bn_f Q15)
            (try first | replace Q15 := bx_t Q15 | replace Q15 := bx_f Q15 | replace Q15 := be_t Q15 | replace Q15 := be_f Q15 | replace Q15 := of_decide_eq_true Q15 | replace Q15 := of_decide_eq_false Q15)
            have hlt : (L[k]'hkK).u < (L[l]'hlL).u := Q15
            first
             | (exfalso; first | omega | contradiction | (cases Q15; done))
             | skip
               refine cd_region ?_
               refine st_val (ro_move (v := .int _ _) rfl) ?_
               refine st_val (ro_assign (v := .int _ _) rfl) ?_
               refine st_nil ?_
               refine nx_block ?_
               refine nx_cut (k) ⟨(by first | rfl | (refine int_eq ?_; omega)), trivial⟩ (by (iterate 15 refine agr_cons rfl ?_); exact agr_rfl) ?_
               refine ⟨hkK, by omega, fun _ j hj hjk => ?_, fun _ j hj hjk => ?_, (((hB.next E5).only O4 (hg5)).next D14)⟩
               · have := hle hlL j hj hjk; omega
               · rcases Nat.lt_or_ge j k with a | a
                 · have := hle hlL j hj a; omega
                 · obtain rfl : j = k := by omega
                   omega
          · (try first | replace Q15 := bn_t Q15 | replace Q15 := bn_f Q15)
            (try first | replace Q15 := bx_t Q15 | replace Q15 := bx_f Q15 | replace Q15 := be_t Q15 | replace Q15 := be_f Q15 | replace Q15 := of_decide_eq_true Q15 | replace Q15 := of_decide_eq_false Q15)
            have hlt : ¬ (L[k]'hkK).u < (L[l]'hlL).u := Q15
            first
             | (exfalso; first | omega | contradiction | (cases Q15; done))
             | skip
               refine cd_skip ?_
               refine nx_block ?_
               refine nx_cut (l) ⟨(by first | rfl | (refine int_eq ?_; omega)), trivial⟩ (by (iterate 13 refine agr_cons rfl ?_); exact agr_rfl) ?_
               refine ⟨hlL, by omega, hlo, fun _ j hj hjk => ?_, (((hB.next E5).only O4 (hg5)).next D14)⟩
               rcases Nat.lt_or_ge j k with a | a
               · exact hle hlL j hj a
               · obtain rfl : j = k := by omega
                 omega
       · rintro l2 ρ16 w16 ⟨hl2, hlk2, hlo2, hle2, hB⟩
         refine cd_region ?_
         refine st_val (ro_addN (b := 1) rfl rfl (by omega)) ?_
         refine st_val (ro_move (v := .int _ _) rfl) ?_
         refine st_nil ?_
         refine nx_cut ((l2, k + 1)) ⟨(by first | rfl | (refine int_eq ?_; omega)), (by first | rfl | (refine int_eq ?_; omega)), trivial⟩ (by (iterate 36 refine agr_cons rfl ?_); exact agr_rfl) ⟨?_, ?_⟩
         · exact ⟨by omega, hl2, by omega, hlo2, hle2, hB⟩
         · show L.length - (k + 1) < L.length - k; omega
  · (try first | replace Q2 := bn_t Q2 | replace Q2 := bn_f Q2)
    (try first | replace Q2 := bx_t Q2 | replace Q2 := bx_f Q2 | replace Q2 := be_t Q2 | replace Q2 := be_f Q2 | replace Q2 := of_decide_eq_true Q2 | replace Q2 := of_decide_eq_false Q2)
    first
     | (exfalso; first | omega | contradiction | (cases Q2; done))
     | skip
       refine cd_exit ?_
       refine ex_then ?_
       refine ex_then ?_
       refine ex_block ?_
       refine nx_then ?_
       refine cd_seq ?_
       refine cd_region ?_
       refine st_val (ro_move (v := .int _ _) rfl) ?_
       refine st_val (ro_assign (v := .int _ _) rfl) ?_
       refine st_nil ?_
       refine nx_then ?_
       refine cd_ret ?_
       refine res1 (v := .int _ _) rfl rfl ?_
       obtain rfl : k = L.length := by omega
       exact ⟨⟨l, rfl, hlL, hlo hlL, fun j hj => hle hlL j hj hj⟩, hB⟩
theorem longest_n (A : Option Addr) (c n : Nat) (L : List Ses) (w : World) (hn : n = L.length) (hr : RowS w A L) (hl : L.length ≤ 1000) (h0 : 0 < L.length) : Rt Try.prog 46 [.slice A n c] w fun v w' => (∃ k : Nat, v = .int .i64 (k : Nat) ∧ isLeast L k) ∧ From w w' := by
  subst hn
  exact longest_rt A c L w hr hl h0
set_option maxRecDepth 100000 in
set_option maxHeartbeats 2000000 in
theorem open_p (A : Option Addr) (c : Nat) (L : List Ses) (w : World) (hr : RowS w A L) (hl : L.length ≤ 1000) (hn0 : A = none → c = 0) (t : Int) (hv : ValidL L) :
    Rt Try.prog 26 [.slice A L.length c, .int .i64 t] w (fun v w' => GotP w (OpenGot L t) v w') := by
  have hv8 := hv.1
  refine enter (n := 53) Try.func26 rfl rfl rfl ?_
  refine cd_seq ?_
  refine cd_region ?_
  refine st_val (ro_assign (v := .slice _ _ _) rfl) ?_
  refine st_val (ro_assign (v := .int _ _) rfl) ?_
  refine st_nil ?_
  refine nx_then ?_
  refine cd_seq ?_
  refine cd_seq ?_
  refine cd_region ?_
  refine st_val (ro_move (v := .slice _ _ _) rfl) ?_
  refine st_call SesOpen_k13 (check_ok A c L _ (hr.from_ From.rfl_) (by omega) hv) ?_
  rintro v13 w1 ⟨rfl, E13⟩
  refine st_val (ro_bf (ro_neq rfl rfl) rfl) ?_
  refine st_val (ro_move (v := .bool _) rfl) ?_
  refine st_unguard rfl ?_
  refine st_val (ro_move (v := .int _ _) rfl) ?_
  refine st_unguard rfl ?_
  refine st_lit1 (v := .int _ _) SesOpen_q55 rfl rfl rfl ?_
  intro b17 w2 E17 hb17 hk17
  refine st_unguard rfl ?_
  refine st_call SesOpen_k37 (within1 1 t b17 _ hk17) ?_
  rintro v18 w3 ⟨rfl, rfl⟩
  refine st_unguard rfl ?_
  refine st_val (ro_not rfl) ?_
  refine st_val (ro_pickF (v := .bool _) rfl rfl) ?_
  refine st_nil ?_
  refine nx_then ?_
  refine cd_cond rfl (fun Q4 => ?_) (fun Q4 => ?_)
  · (try first | replace Q4 := bn_t Q4 | replace Q4 := bn_f Q4)
    (try first | replace Q4 := bx_t Q4 | replace Q4 := bx_f Q4 | replace Q4 := be_t Q4 | replace Q4 := be_f Q4 | replace Q4 := of_decide_eq_true Q4 | replace Q4 := of_decide_eq_false Q4)
    have hb : ¬ mayO L t := fun h => by have := h.1; unfold inE at this; have := of_decide_eq_true this; omega
    first
     | (exfalso; first | omega | contradiction | (cases Q4; done))
     | skip
       refine cd_seq ?_
       refine cd_region ?_
       refine st_val (ro_assign (v := .slice _ _ _) rfl) ?_
       refine st_val (ro_assign (v := .int _ _) rfl) ?_
       refine st_nil ?_
       refine nx_then ?_
       refine cd_ret ?_
       refine rt_then ?_
       refine res2 (v := .slice _ _ _) (v' := .int _ _) rfl rfl rfl ?_
       exact gotP_nil _ _ _ _ (.inl ⟨by first | exact hb | exact (fun h => by have := h.1; unfold inE at this; have := of_decide_eq_true this; omega), rfl, rfl⟩) ((From.rfl_.next E13).next E17)
  · (try first | replace Q4 := bn_t Q4 | replace Q4 := bn_f Q4)
    (try first | replace Q4 := bx_t Q4 | replace Q4 := bx_f Q4 | replace Q4 := be_t Q4 | replace Q4 := be_f Q4 | replace Q4 := of_decide_eq_true Q4 | replace Q4 := of_decide_eq_false Q4)
    have hq : inE 1 t = true := decide_eq_true (by omega)
    first
     | (exfalso; first | omega | contradiction | (cases Q4; done))
     | skip
       refine cd_skip ?_
       refine nx_then ?_
       refine cd_seq ?_
       refine cd_seq ?_
       refine cd_region ?_
       refine st_val (ro_move (v := .slice _ _ _) rfl) ?_
       refine st_val (ro_move (v := .int _ _) rfl) ?_
       refine st_call SesOpen_k38 (find_rt A c L _ (hr.from_ ((From.rfl_.next E13).next E17)) (by omega) t (valid_rise hv)) ?_
       rintro v24 w5 ⟨hg24, E24⟩
       rcases hg24 with ⟨i, hi, he, rfl⟩ | ⟨i, hi, h1, h2, rfl⟩
       · refine st_val (ro_move (v := .tuple _) rfl) ?_
         refine st_val (ro_extract rfl rfl) ?_
         refine st_val (ro_extract rfl rfl) ?_
         refine st_val (ro_assign (v := .int _ _) rfl) ?_
         refine st_val (ro_assign (v := .bool _) rfl) ?_
         refine st_nil ?_
         refine nx_then ?_
         refine cd_seq ?_
         refine cd_region ?_
         refine st_val (ro_move (v := .bool _) rfl) ?_
         refine st_nil ?_
         refine nx_then ?_
         refine cd_cond rfl (fun Q6 => ?_) (fun Q6 => ?_)
         · (try first | replace Q6 := bn_t Q6 | replace Q6 := bn_f Q6)
           (try first | replace Q6 := bx_t Q6 | replace Q6 := bx_f Q6 | replace Q6 := be_t Q6 | replace Q6 := be_f Q6 | replace Q6 := of_decide_eq_true Q6 | replace Q6 := of_decide_eq_false Q6)
           first
            | (exfalso; first | omega | contradiction | (cases Q6; done))
            | skip
              refine cd_seq ?_
              refine cd_region ?_
              refine st_val (ro_assign (v := .slice _ _ _) rfl) ?_
              refine st_val (ro_assign (v := .int _ _) rfl) ?_
              refine st_nil ?_
              refine nx_then ?_
              refine cd_ret ?_
              refine rt_then ?_
              refine res2 (v := .slice _ _ _) (v' := .int _ _) rfl rfl rfl ?_
              exact gotP_nil _ _ _ _ (.inl ⟨fun h => h.2 i hi he, rfl, rfl⟩) (((From.rfl_.next E13).next E17).next E24)
         · (try first | replace Q6 := bn_t Q6 | replace Q6 := bn_f Q6)
           (try first | replace Q6 := bx_t Q6 | replace Q6 := bx_f Q6 | replace Q6 := be_t Q6 | replace Q6 := be_f Q6 | replace Q6 := of_decide_eq_true Q6 | replace Q6 := of_decide_eq_false Q6)
           first
            | (exfalso; first | omega | contradiction | (cases Q6; done))
            | skip
              refine cd_skip ?_
              refine nx_then ?_
              refine cd_seq ?_
              refine cd_region ?_
              refine st_val (ro_move (v := .slice _ _ _) rfl) ?_
              have hB29 : From w w5 := (((From.rfl_.next E13).next E17).next E24)
              refine st_call SesOpen_k42 (cloneS_rt A c L _ (hr.from_ (((From.rfl_.next E13).next E17).next E24)) hl hn0) ?_
              rintro v29 w7 ⟨⟨A29, c29, rfl, ho29⟩, E29⟩
              replace ho29 := own_le ho29 hB29.size
              refine st_val (ro_assign (v := .slice _ _ _) rfl) ?_
              refine st_nil ?_
              refine nx_then ?_
              refine cd_cut (G := Option Addr × Nat × List Ses × Nat) [9, 30, 31, 32, 33, 34, 35, 36, 37, 38, 39] (fun (A8, c8, M, m) => [(8, .slice A8 m c8)]) (fun (A8, c8, M, m) w' => m = M.length ∧ w'.ownsRow w.heap.size 60 6 (.slice A8 m c8) m (M.flatMap sesV) ∧ EvictGot (L.map norm) M ∧ From w w') ?_ ?_
              · refine cd_seq ?_
                refine cd_region ?_
                refine st_val (ro_move (v := .slice _ _ _) rfl) ?_
                refine st_val (ro_len SesOpen_l22 rfl) ?_
                refine st_val (ro_eql rfl rfl) ?_
                refine st_nil ?_
                refine nx_then ?_
                refine cd_cond rfl (fun Q8 => ?_) (fun Q8 => ?_)
                · (try first | replace Q8 := bn_t Q8 | replace Q8 := bn_f Q8)
                  (try first | replace Q8 := bx_t Q8 | replace Q8 := bx_f Q8 | replace Q8 := be_t Q8 | replace Q8 := be_f Q8 | replace Q8 := of_decide_eq_true Q8 | replace Q8 := of_decide_eq_false Q8)
                  have h8 : L.length = 8 := by omega
                  first
                   | (exfalso; first | omega | contradiction | (cases Q8; done))
                   | skip
                     refine cd_seq ?_
                     refine cd_region ?_
                     refine st_val (ro_move (v := .slice _ _ _) rfl) ?_
                     refine st_call SesOpen_k46 (longest_n A29 c29 L.length (L.map norm) _ (by rw [List.length_map]) ((rowS_own ho29).2) (by rw [List.length_map]; omega) (by rw [List.length_map]; omega)) ?_
                     rintro v34 w9 ⟨⟨kk, rfl, hkk⟩, E34⟩
                     have hkk8 : kk < 8 := by have := hkk.1; rw [List.length_map] at this; omega
                     refine st_val (ro_assign (v := .int _ _) rfl) ?_
                     refine st_nil ?_
                     refine nx_then ?_
                     refine cd_region ?_
                     refine st_val (ro_move (v := .slice _ _ _) rfl) ?_
                     refine st_val (ro_move (v := .int _ _) rfl) ?_
                     refine st_val (ro_move (v := .int _ _) rfl) ?_
                     refine st_val (ro_addN (b := 1) rfl rfl (by omega)) ?_
                     refine st_call SesOpen_k45 (delete_rt _ A29 c29 L.length kk (kk + 1) ((L.map norm).flatMap sesV) _ (ho29.kept_from E34) (by omega) (by have := hkk.1; rw [List.length_map] at this; omega) (ses_one _) (by omega)) ?_
                     rintro v39 w10 ⟨⟨A39, c39, rfl, ho39⟩, hg39⟩
                     refine st_val (ro_assign (v := .slice _ _ _) rfl) ?_
                     refine st_nil ?_
                     refine nx_cut ((A39, c39, (L.map norm).take kk ++ (L.map norm).drop (kk + 1), _)) ⟨(by first | rfl | (refine int_eq ?_; omega)), trivial⟩ (by (iterate 12 refine agr_cons rfl ?_); exact agr_rfl) ?_
                     refine ⟨?_, ?_, .inr ⟨by rw [List.length_map]; omega, kk, hkk, rfl⟩, (((((((From.rfl_.next E13).next E17).next E24).next E29).next E34)).grew hg39 (fun k hk => (own_at ho29 k hk).1))⟩
                     · have := hkk.1
                       rw [List.length_map] at this
                       rw [close_len this]
                       omega
                     · rw [flat_take ses_len, flat_drop ses_len, ← List.flatMap_append] at ho39
                       exact ho39
                · (try first | replace Q8 := bn_t Q8 | replace Q8 := bn_f Q8)
                  (try first | replace Q8 := bx_t Q8 | replace Q8 := bx_f Q8 | replace Q8 := be_t Q8 | replace Q8 := be_f Q8 | replace Q8 := of_decide_eq_true Q8 | replace Q8 := of_decide_eq_false Q8)
                  have h8 : L.length ≠ 8 := by omega
                  first
                   | (exfalso; first | omega | contradiction | (cases Q8; done))
                   | skip
                     refine cd_skip ?_
                     refine nx_cut ((A29, c29, L.map norm, _)) ⟨(by first | rfl | (refine int_eq ?_; omega)), trivial⟩ (by (iterate 3 refine agr_cons rfl ?_); exact agr_rfl) ?_
                     exact ⟨by rw [List.length_map], ho29, .inl ⟨by rw [List.length_map]; omega, rfl⟩, ((((From.rfl_.next E13).next E17).next E24).next E29)⟩
              · rintro ⟨A8, c8, M, m⟩ ρ11 w11 ⟨hm, ho8, hE8, hB⟩
                refine cd_seq ?_
                refine cd_region ?_
                refine st_val (ro_move (v := .slice _ _ _) rfl) ?_
                refine st_val (ro_move (v := .int _ _) rfl) ?_
                subst hm
                have hMl : M.length ≤ 8 := by have := (evict_mem hE8).2; rw [List.length_map] at this; omega
                refine st_call SesOpen_k38 (find_rt A8 c8 M _ (rowS_own ho8).2 (by omega) t (evict_rise hv hE8)) ?_
                rintro v43 w12 ⟨hg43, E43⟩
                rcases hg43 with ⟨i2, hi2, he2, _⟩ | ⟨i2, hi2, h3, h4, rfl⟩
                · exact absurd he2 (evict_ne hE8 (not_in h1 h2) i2 hi2)
                · refine st_val (ro_move (v := .tuple _) rfl) ?_
                  refine st_val (ro_extract rfl rfl) ?_
                  refine st_val (ro_extract rfl rfl) ?_
                  refine st_val (ro_assign (v := .int _ _) rfl) ?_
                  refine st_val (ro_assign (v := .bool _) rfl) ?_
                  refine st_nil ?_
                  refine nx_then ?_
                  refine cd_seq ?_
                  refine cd_region ?_
                  refine st_val (ro_move (v := .slice _ _ _) rfl) ?_
                  refine st_val (ro_move (v := .int _ _) rfl) ?_
                  refine st_val (ro_move (v := .int _ _) rfl) ?_
                  refine st_val (ro_move (v := .int _ _) rfl) ?_
                  refine st_val (ro_build (l := [(0, .tmp 48), (3, .tmp 49)]) (SesOpen_b60_0_3 _ _)) ?_
                  refine st_lit (cells := (sesV (newS t)).toArray) SesOpen_q22 rfl rfl (fill6 t) ?_
                  intro b51 w13 E51 hb51 hk51
                  have hne51 : ∀ k, A8.map (·.block) = some k → k ≠ b51 := fun k hk he => by have := (own_at (ho8.kept_from E43) k hk).2; omega
                  refine st_call SesOpen_k47 (insert_rt w.heap.size A8 c8 M.length i2 1 b51 0 1 (M.flatMap sesV) (sesV (newS t)) _ _ _ (ho8.kept_from (E43.next E51)) ((hB.next E43).next E51).size hi2 (by decide) rfl hk51.whole hk51 hne51 (ses_one _) (by simp [sesV, newS, Value.oneCell']) (by omega)) ?_
                  rintro v52 w14 ⟨⟨A52, c52, rfl, ho52⟩, hg52⟩
                  refine st_val (ro_assign (v := .slice _ _ _) rfl) ?_
                  refine st_val (ro_assign (v := .int _ _) rfl) ?_
                  refine st_nil ?_
                  refine nx_then ?_
                  refine cd_ret ?_
                  refine res2 (v := .slice _ _ _) (v' := .int _ _) rfl rfl rfl ?_
                  have hn : (M.take i2 ++ [newS t] ++ M.drop i2).length = M.length + 1 := by simp; omega
                  rw [flat_take ses_len, flat_drop ses_len] at ho52
                  exact ⟨⟨M.take i2 ++ [newS t] ++ M.drop i2, 0, A52, c52, by rw [hn], .inr ⟨⟨hq, not_in h1 h2⟩, rfl, M, i2, hE8, ⟨hi2, h3, h4⟩, rfl⟩, w.heap.size, Nat.le_refl _, by rw [hn]; simpa using ho52⟩, (((hB.next E43).next E51).grew hg52 (fun k hk => (own_at ho8 k hk).1))⟩
       · refine st_val (ro_move (v := .tuple _) rfl) ?_
         refine st_val (ro_extract rfl rfl) ?_
         refine st_val (ro_extract rfl rfl) ?_
         refine st_val (ro_assign (v := .int _ _) rfl) ?_
         refine st_val (ro_assign (v := .bool _) rfl) ?_
         refine st_nil ?_
         refine nx_then ?_
         refine cd_seq ?_
         refine cd_region ?_
         refine st_val (ro_move (v := .bool _) rfl) ?_
         refine st_nil ?_
         refine nx_then ?_
         refine cd_cond rfl (fun Q15 => ?_) (fun Q15 => ?_)
         · (try first | replace Q15 := bn_t Q15 | replace Q15 := bn_f Q15)
           (try first | replace Q15 := bx_t Q15 | replace Q15 := bx_f Q15 | replace Q15 := be_t Q15 | replace Q15 := be_f Q15 | replace Q15 := of_decide_eq_true Q15 | replace Q15 := of_decide_eq_false Q15)
           first
            | (exfalso; first | omega | contradiction | (cases Q15; done))
            | skip
              refine cd_seq ?_
              refine cd_region ?_
              refine st_val (ro_assign (v := .slice _ _ _) rfl) ?_
              refine st_val (ro_assign (v := .int _ _) rfl) ?_
              refine st_nil ?_
              refine nx_then ?_
              refine cd_ret ?_
              refine rt_then ?_
              refine res2 (v := .slice _ _ _) (v' := .int _ _) rfl rfl rfl ?_
              exact gotP_nil _ _ _ _ (.inl ⟨fun h => h.2 i hi he, rfl, rfl⟩) (((From.rfl_.next E13).next E17).next E24)
         · (try first | replace Q15 := bn_t Q15 | replace Q15 := bn_f Q15)
           (try first | replace Q15 := bx_t Q15 | replace Q15 := bx_f Q15 | replace Q15 := be_t Q15 | replace Q15 := be_f Q15 | replace Q15 := of_decide_eq_true Q15 | replace Q15 := of_decide_eq_false Q15)
           first
            | (exfalso; first | omega | contradiction | (cases Q15; done))
            | skip
              refine cd_skip ?_
              refine nx_then ?_
              refine cd_seq ?_
              refine cd_region ?_
              refine st_val (ro_move (v := .slice _ _ _) rfl) ?_
              have hB29 : From w w5 := (((From.rfl_.next E13).next E17).next E24)
              refine st_call SesOpen_k42 (cloneS_rt A c L _ (hr.from_ (((From.rfl_.next E13).next E17).next E24)) hl hn0) ?_
              rintro v29 w16 ⟨⟨A29, c29, rfl, ho29⟩, E29⟩
              replace ho29 := own_le ho29 hB29.size
              refine st_val (ro_assign (v := .slice _ _ _) rfl) ?_
              refine st_nil ?_
              refine nx_then ?_
              refine cd_cut (G := Option Addr × Nat × List Ses × Nat) [9, 30, 31, 32, 33, 34, 35, 36, 37, 38, 39] (fun (A8, c8, M, m) => [(8, .slice A8 m c8)]) (fun (A8, c8, M, m) w' => m = M.length ∧ w'.ownsRow w.heap.size 60 6 (.slice A8 m c8) m (M.flatMap sesV) ∧ EvictGot (L.map norm) M ∧ From w w') ?_ ?_
              · refine cd_seq ?_
                refine cd_region ?_
                refine st_val (ro_move (v := .slice _ _ _) rfl) ?_
                refine st_val (ro_len SesOpen_l22 rfl) ?_
                refine st_val (ro_eql rfl rfl) ?_
                refine st_nil ?_
                refine nx_then ?_
                refine cd_cond rfl (fun Q17 => ?_) (fun Q17 => ?_)
                · (try first | replace Q17 := bn_t Q17 | replace Q17 := bn_f Q17)
                  (try first | replace Q17 := bx_t Q17 | replace Q17 := bx_f Q17 | replace Q17 := be_t Q17 | replace Q17 := be_f Q17 | replace Q17 := of_decide_eq_true Q17 | replace Q17 := of_decide_eq_false Q17)
                  have h8 : L.length = 8 := by omega
                  first
                   | (exfalso; first | omega | contradiction | (cases Q17; done))
                   | skip
                     refine cd_seq ?_
                     refine cd_region ?_
                     refine st_val (ro_move (v := .slice _ _ _) rfl) ?_
                     refine st_call SesOpen_k46 (longest_n A29 c29 L.length (L.map norm) _ (by rw [List.length_map]) ((rowS_own ho29).2) (by rw [List.length_map]; omega) (by rw [List.length_map]; omega)) ?_
                     rintro v34 w18 ⟨⟨kk, rfl, hkk⟩, E34⟩
                     have hkk8 : kk < 8 := by have := hkk.1; rw [List.length_map] at this; omega
                     refine st_val (ro_assign (v := .int _ _) rfl) ?_
                     refine st_nil ?_
                     refine nx_then ?_
                     refine cd_region ?_
                     refine st_val (ro_move (v := .slice _ _ _) rfl) ?_
                     refine st_val (ro_move (v := .int _ _) rfl) ?_
                     refine st_val (ro_move (v := .int _ _) rfl) ?_
                     refine st_val (ro_addN (b := 1) rfl rfl (by omega)) ?_
                     refine st_call SesOpen_k45 (delete_rt _ A29 c29 L.length kk (kk + 1) ((L.map norm).flatMap sesV) _ (ho29.kept_from E34) (by omega) (by have := hkk.1; rw [List.length_map] at this; omega) (ses_one _) (by omega)) ?_
                     rintro v39 w19 ⟨⟨A39, c39, rfl, ho39⟩, hg39⟩
                     refine st_val (ro_assign (v := .slice _ _ _) rfl) ?_
                     refine st_nil ?_
                     refine nx_cut ((A39, c39, (L.map norm).take kk ++ (L.map norm).drop (kk + 1), _)) ⟨(by first | rfl | (refine int_eq ?_; omega)), trivial⟩ (by (iterate 12 refine agr_cons rfl ?_); exact agr_rfl) ?_
                     refine ⟨?_, ?_, .inr ⟨by rw [List.length_map]; omega, kk, hkk, rfl⟩, (((((((From.rfl_.next E13).next E17).next E24).next E29).next E34)).grew hg39 (fun k hk => (own_at ho29 k hk).1))⟩
                     · have := hkk.1
                       rw [List.length_map] at this
                       rw [close_len this]
                       omega
                     · rw [flat_take ses_len, flat_drop ses_len, ← List.flatMap_append] at ho39
                       exact ho39
                · (try first | replace Q17 := bn_t Q17 | replace Q17 := bn_f Q17)
                  (try first | replace Q17 := bx_t Q17 | replace Q17 := bx_f Q17 | replace Q17 := be_t Q17 | replace Q17 := be_f Q17 | replace Q17 := of_decide_eq_true Q17 | replace Q17 := of_decide_eq_false Q17)
                  have h8 : L.length ≠ 8 := by omega
                  first
                   | (exfalso; first | omega | contradiction | (cases Q17; done))
                   | skip
                     refine cd_skip ?_
                     refine nx_cut ((A29, c29, L.map norm, _)) ⟨(by first | rfl | (refine int_eq ?_; omega)), trivial⟩ (by (iterate 3 refine agr_cons rfl ?_); exact agr_rfl) ?_
                     exact ⟨by rw [List.length_map], ho29, .inl ⟨by rw [List.length_map]; omega, rfl⟩, ((((From.rfl_.next E13).next E17).next E24).next E29)⟩
              · rintro ⟨A8, c8, M, m⟩ ρ20 w20 ⟨hm, ho8, hE8, hB⟩
                refine cd_seq ?_
                refine cd_region ?_
                refine st_val (ro_move (v := .slice _ _ _) rfl) ?_
                refine st_val (ro_move (v := .int _ _) rfl) ?_
                subst hm
                have hMl : M.length ≤ 8 := by have := (evict_mem hE8).2; rw [List.length_map] at this; omega
                refine st_call SesOpen_k38 (find_rt A8 c8 M _ (rowS_own ho8).2 (by omega) t (evict_rise hv hE8)) ?_
                rintro v43 w21 ⟨hg43, E43⟩
                rcases hg43 with ⟨i2, hi2, he2, _⟩ | ⟨i2, hi2, h3, h4, rfl⟩
                · exact absurd he2 (evict_ne hE8 (not_in h1 h2) i2 hi2)
                · refine st_val (ro_move (v := .tuple _) rfl) ?_
                  refine st_val (ro_extract rfl rfl) ?_
                  refine st_val (ro_extract rfl rfl) ?_
                  refine st_val (ro_assign (v := .int _ _) rfl) ?_
                  refine st_val (ro_assign (v := .bool _) rfl) ?_
                  refine st_nil ?_
                  refine nx_then ?_
                  refine cd_seq ?_
                  refine cd_region ?_
                  refine st_val (ro_move (v := .slice _ _ _) rfl) ?_
                  refine st_val (ro_move (v := .int _ _) rfl) ?_
                  refine st_val (ro_move (v := .int _ _) rfl) ?_
                  refine st_val (ro_move (v := .int _ _) rfl) ?_
                  refine st_val (ro_build (l := [(0, .tmp 48), (3, .tmp 49)]) (SesOpen_b60_0_3 _ _)) ?_
                  refine st_lit (cells := (sesV (newS t)).toArray) SesOpen_q22 rfl rfl (fill6 t) ?_
                  intro b51 w22 E51 hb51 hk51
                  have hne51 : ∀ k, A8.map (·.block) = some k → k ≠ b51 := fun k hk he => by have := (own_at (ho8.kept_from E43) k hk).2; omega
                  refine st_call SesOpen_k47 (insert_rt w.heap.size A8 c8 M.length i2 1 b51 0 1 (M.flatMap sesV) (sesV (newS t)) _ _ _ (ho8.kept_from (E43.next E51)) ((hB.next E43).next E51).size hi2 (by decide) rfl hk51.whole hk51 hne51 (ses_one _) (by simp [sesV, newS, Value.oneCell']) (by omega)) ?_
                  rintro v52 w23 ⟨⟨A52, c52, rfl, ho52⟩, hg52⟩
                  refine st_val (ro_assign (v := .slice _ _ _) rfl) ?_
                  refine st_val (ro_assign (v := .int _ _) rfl) ?_
                  refine st_nil ?_
                  refine nx_then ?_
                  refine cd_ret ?_
                  refine res2 (v := .slice _ _ _) (v' := .int _ _) rfl rfl rfl ?_
                  have hn : (M.take i2 ++ [newS t] ++ M.drop i2).length = M.length + 1 := by simp; omega
                  rw [flat_take ses_len, flat_drop ses_len] at ho52
                  exact ⟨⟨M.take i2 ++ [newS t] ++ M.drop i2, 0, A52, c52, by rw [hn], .inr ⟨⟨hq, not_in h1 h2⟩, rfl, M, i2, hE8, ⟨hi2, h3, h4⟩, rfl⟩, w.heap.size, Nat.le_refl _, by rw [hn]; simpa using ho52⟩, (((hB.next E43).next E51).grew hg52 (fun k hk => (own_at ho8 k hk).1))⟩
theorem open_rt (A : Option Addr) (c : Nat) (L : List Ses) (w : World) (hr : RowS w A L) (hl : L.length ≤ 1000) (hn0 : A = none → c = 0) (t : Int) (hv : ValidL L) : Rt Try.prog 26 [.slice A L.length c, .int .i64 t] w fun v w' => GotO w (OpenGot L t) v w' := (open_p A c L w hr hl hn0 t hv).mono fun _ _ h => gotO_of h
end Go.Proofs.Ytbikemhokgcboaa
