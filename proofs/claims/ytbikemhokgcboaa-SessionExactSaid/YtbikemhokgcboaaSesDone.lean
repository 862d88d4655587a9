/- session: Done, Close; the reference: Done, Close; EqSessions. -/
import Derived.Test.YtbikemhokgcboaaSesCopy
namespace Go.Proofs.Ytbikemhokgcboaa
open Go.RowKit
open Go.ChangeShapes Go.WideShapes Go.ChangeAt
theorem SesDone_e22 : elemQ Try.prog 22 = some (60, 6) := by kernel_rfl
theorem SesDone_z60 : sizeQ Try.prog 60 = some 6 := by kernel_rfl
theorem SesDone_k13 : callable Try.prog 13 = true := by kernel_rfl
theorem SesDone_q55 : litQ Try.prog 55 = some (3, 1, 8, (.int .i64 0)) := by kernel_rfl
theorem SesDone_k37 : callable Try.prog 37 = true := by kernel_rfl
theorem SesDone_g31 : aggQ Try.prog 31 = some true := by kernel_rfl
theorem SesDone_z31 : sizeQ Try.prog 31 = some 3 := by kernel_rfl
theorem SesDone_k41 : callable Try.prog 41 = true := by kernel_rfl
theorem SesDone_k38 : callable Try.prog 38 = true := by kernel_rfl
theorem SesDone_f31_2 : fieldQ Try.prog 31 2 = some 2 := by kernel_rfl
theorem SesDone_z29 : sizeQ Try.prog 29 = some 1 := by kernel_rfl
theorem SesDone_k42 : callable Try.prog 42 = true := by kernel_rfl
theorem SesDone_b60_0_1_2_3 : ∀ (a0 : Int) (a1 : Int) (a2 : Int) (a3 : Int) (a4 : Option Addr) (a5 a6 : Nat) (a7 : Int), Try.prog.built 60 [(0, .int .i64 a0), (1, .int .i64 a1), (2, .agg #[.int .i64 a2, .int .i64 a3, .slice a4 a5 a6]), (3, .int .i64 a7)] = some #[.int .i64 a0, .int .i64 a1, .int .i64 a2, .int .i64 a3, .slice a4 a5 a6, .int .i64 a7] := by intros; kernel_rfl
theorem SesDone_z3 : sizeQ Try.prog 3 = some 1 := by kernel_rfl
theorem SesDone_k32 : callable Try.prog 32 = true := by kernel_rfl
theorem SesDone_k34 : callable Try.prog 34 = true := by kernel_rfl
theorem SesDone_k36 : callable Try.prog 36 = true := by kernel_rfl
theorem SesDone_k10 : callable Try.prog 10 = true := by kernel_rfl
theorem SesDone_k21 : callable Try.prog 21 = true := by kernel_rfl
theorem SesDone_f60_1 : fieldQ Try.prog 60 1 = some 1 := by kernel_rfl
theorem SesDone_f60_2 : fieldQ Try.prog 60 2 = some 2 := by kernel_rfl
theorem SesDone_f60_3 : fieldQ Try.prog 60 3 = some 5 := by kernel_rfl
theorem SesDone_k45 : callable Try.prog 45 = true := by kernel_rfl
theorem SesDone_k44 : callable Try.prog 44 = true := by kernel_rfl
theorem SesDone_f60_0 : fieldQ Try.prog 60 0 = some 0 := by kernel_rfl
theorem SesDone_g3 : aggQ Try.prog 3 = some false := by kernel_rfl
theorem SesDone_k17 : callable Try.prog 17 = true := by kernel_rfl
theorem SesDone_g60 : aggQ Try.prog 60 = some true := by kernel_rfl
theorem SesDone_l22 : (elemQ Try.prog 22).isSome = true := by kernel_rfl
theorem SesDone_k40 : callable Try.prog 40 = true := by kernel_rfl
def GotL (w : World) (D : List Ses → Int → Prop) (v : Value) (w' : World) : Prop := (∃ (K : List Ses) (err : Int) (A' : Option Addr) (c' : Nat), v = .tuple #[.slice A' K.length c', .int .i64 err] ∧ D K err ∧ RowS w' A' K) ∧ From w w'
def okD (sq idx e n : Int) (hl : Nat) : Bool := inE 1 sq && inE 1 idx && vR e n hl
def DoneGot (L : List Ses) (cl sq e n : Int) (hl : Nat) (idx : Int) (K : List Ses) (err : Int) : Prop :=
  (okD sq idx e n hl = false ∧ K = [] ∧ err = 1) ∨ (okD sq idx e n hl = true ∧ (∀ j (h : j < L.length), L[j].c ≠ cl) ∧ K = [] ∧ err = 9) ∨
  (∃ (i : Nat) (h : i < L.length), okD sq idx e n hl = true ∧ L[i].c = cl ∧ K = (L.map norm).set i ⟨cl, sq, e, n, none, 0, 0, idx⟩ ∧ err = 0)
def CloseGot (L : List Ses) (cl : Int) (K : List Ses) (err : Int) : Prop :=
  ((∀ j (h : j < L.length), L[j].c ≠ cl) ∧ K = [] ∧ err = 9) ∨ (∃ (i : Nat) (h : i < L.length), L[i].c = cl ∧ K = (L.map norm).take i ++ (L.map norm).drop (i + 1) ∧ err = 0)
theorem one_place {L : List Ses} (hr : ∀ i j (hi : i < L.length) (hj : j < L.length), i < j → L[i].c < L[j].c) {cl : Int} {i j : Nat} (hi : i < L.length) (hj : j < L.length) (h1 : L[i].c = cl) (h2 : L[j].c = cl) : i = j := by
  rcases Nat.lt_trichotomy i j with x | x | x
  · have := hr i j hi hj x; omega
  · exact x
  · have := hr j i hj hi x; omega
theorem nob {b : Bool} (h : b = false) (h' : b = true) : False := Bool.noConfusion (h.symm.trans h')
theorem done_one {L : List Ses} (hr : ∀ i j (hi : i < L.length) (hj : j < L.length), i < j → L[i].c < L[j].c) {cl sq e n idx err err' : Int} {hl : Nat} {K K' : List Ses} (h : DoneGot L cl sq e n hl idx K err) (h' : DoneGot L cl sq e n hl idx K' err') : K' = K ∧ err' = err := by
  unfold DoneGot at h h'
  generalize okD sq idx e n hl = b at h h'
  rcases h with ⟨a, h1, h2⟩ | ⟨a, b, h1, h2⟩ | ⟨i, hi, a, b, h1, h2⟩
  · rcases h' with ⟨a', h3, h4⟩ | ⟨a', b', h3, h4⟩ | ⟨j, hj, a', b', h3, h4⟩
    · exact ⟨h3.trans h1.symm, h4.trans h2.symm⟩
    · exact (nob a a').elim
    · exact (nob a a').elim
  · rcases h' with ⟨a', h3, h4⟩ | ⟨a', b', h3, h4⟩ | ⟨j, hj, a', b', h3, h4⟩
    · exact (nob a' a).elim
    · exact ⟨h3.trans h1.symm, h4.trans h2.symm⟩
    · exact absurd b' (b j hj)
  · rcases h' with ⟨a', h3, h4⟩ | ⟨a', b', h3, h4⟩ | ⟨j, hj, a', b', h3, h4⟩
    · exact (nob a' a).elim
    · exact absurd b (b' i hi)
    · obtain rfl := one_place hr hi hj b b'
      exact ⟨h3.trans h1.symm, h4.trans h2.symm⟩
theorem close_one {L : List Ses} (hr : ∀ i j (hi : i < L.length) (hj : j < L.length), i < j → L[i].c < L[j].c) {cl err err' : Int} {K K' : List Ses} (h : CloseGot L cl K err) (h' : CloseGot L cl K' err') : K' = K ∧ err' = err := by
  rcases h with ⟨b, h1, h2⟩ | ⟨i, hi, b, h1, h2⟩
  · rcases h' with ⟨b', h3, h4⟩ | ⟨j, hj, b', h3, h4⟩
    · exact ⟨h3.trans h1.symm, h4.trans h2.symm⟩
    · exact absurd b' (b j hj)
  · rcases h' with ⟨b', h3, h4⟩ | ⟨j, hj, b', h3, h4⟩
    · exact absurd b (b' i hi)
    · obtain rfl := one_place hr hi hj b b'
      exact ⟨h3.trans h1.symm, h4.trans h2.symm⟩
theorem valid_hl {L : List Ses} (hv : ValidL L) : ∀ i (h : i < L.length), L[i].hl = 0 := fun i h => vS_hl (hv.2 i h).1
theorem not_in {L : List Ses} {cl : Int} {i : Nat} (h1 : ∀ j (h : j < L.length), j < i → L[j].c < cl) (h2 : ∀ j (h : j < L.length), i ≤ j → cl < L[j].c) : ∀ j (h : j < L.length), L[j].c ≠ cl := fun j hj he => by
  rcases Nat.lt_or_ge j i with a | a
  · have := h1 j hj a; omega
  · have := h2 j hj a; omega
theorem ses_over {L : List Ses} (x : Ses) {i : Nat} (hi : i < L.length) : over (L.flatMap sesV) (i * 6) (sesV x) = (L.set i x).flatMap sesV := over_flat ses_len L i hi x
theorem over_mid (X Y Z vs : List Value) (o : Nat) (h : o + vs.length ≤ Y.length) : over (X ++ (Y ++ Z)) (X.length + o) vs = X ++ (over Y o vs ++ Z) := by
  unfold over
  rw [List.take_length_add_append, Nat.add_assoc, List.drop_length_add_append, List.take_append_of_le_length (by omega), List.drop_append_of_le_length h]
  simp
theorem mid_over {L : List Ses} {i : Nat} {vs : List Value} {x : Ses} (hi : i < L.length) (hx : sesV x = over (sesV L[i]) 2 vs) (hl : vs.length = 3 := by rfl) : over (L.flatMap sesV) (i * 6 + 2) vs = (L.set i x).flatMap sesV := by
  have h0 : L = L.take i ++ L[i] :: L.drop (i + 1) := by rw [← List.drop_eq_getElem_cons hi, List.take_append_drop]
  have hL : L.flatMap sesV = (L.take i).flatMap sesV ++ (sesV L[i] ++ (L.drop (i + 1)).flatMap sesV) := (congrArg (List.flatMap sesV) h0).trans (by rw [List.flatMap_append, List.flatMap_cons])
  have ht : ((L.take i).flatMap sesV).length = i * 6 := by rw [flat_len ses_len, List.length_take, Nat.min_eq_left (by omega)]
  have hr : (L.set i x).flatMap sesV = (L.take i).flatMap sesV ++ (sesV x ++ (L.drop (i + 1)).flatMap sesV) := by
    rw [List.set_eq_take_append_cons_drop, if_pos hi, List.flatMap_append, List.flatMap_cons]
  rw [hr, hx, hL, ← ht]
  exact over_mid _ _ _ _ _ (by rw [ses_len, hl]; decide)
theorem drop_len {L : List Ses} {i : Nat} (hi : i < L.length) : ((L.map norm).take i ++ L.drop (i + 1)).length = L.length - 1 := by
  rw [List.length_append, List.length_take, List.length_drop, List.length_map]; omega
theorem norm_norm (x : Ses) : norm (norm x) = norm x := rfl
theorem drop_norm {L : List Ses} (i : Nat) : ((L.map norm).take i ++ L.drop (i + 1)).map norm = (L.map norm).take i ++ (L.map norm).drop (i + 1) := by
  rw [List.map_append, List.map_drop, ← List.map_take, List.map_map]
  rfl
theorem norm_hl (L : List Ses) : ∀ x ∈ L.map norm, x.hl = 0 := fun x hx => by obtain ⟨y, _, rfl⟩ := List.mem_map.1 hx; rfl
theorem drop_hl {L : List Ses} {i : Nat} (h0 : ∀ i (h : i < L.length), L[i].hl = 0) : ∀ j (h : j < ((L.map norm).take i ++ L.drop (i + 1)).length), ((L.map norm).take i ++ L.drop (i + 1))[j].hl = 0 := fun j h => by
  have hm : ∀ x ∈ (L.map norm).take i ++ L.drop (i + 1), x.hl = 0 := fun x hx => by
    rcases List.mem_append.1 hx with a | a
    · exact norm_hl L x (List.mem_of_mem_take a)
    · obtain ⟨k, hk, rfl⟩ := List.getElem_of_mem (List.mem_of_mem_drop a)
      exact h0 k hk
  exact hm _ (List.getElem_mem _)
theorem norm_at {K L : List Ses} (he : K.map norm = L.map norm) (k : Nat) (h1 : k < K.length) (h2 : k < L.length) : norm K[k] = norm L[k] := by
  have := congrArg (fun l => l[k]?) he
  simpa [h1, h2] using this
theorem got_nil (w : World) (e : Int) (D : List Ses → Int → Prop) (w' : World) (h : D [] e) (hF : From w w') : GotL w D (.tuple #[.slice none 0 0, .int .i64 e]) w' := ⟨⟨[], e, none, 0, rfl, h, rows_nil _ _⟩, hF⟩
def GotN (w : World) (D : List Ses → Int → Prop) (v : Value) (w' : World) : Prop := (∃ (K : List Ses) (err : Int) (A' : Option Addr) (c' : Nat), v = .tuple #[.slice A' K.length c', .int .i64 err] ∧ D K err ∧ RowS w' A' K ∧ (A' = none → c' = 0)) ∧ From w w'
theorem gotN_nil (w : World) (e : Int) (D : List Ses → Int → Prop) (w' : World) (h : D [] e) (hF : From w w') : GotN w D (.tuple #[.slice none 0 0, .int .i64 e]) w' := ⟨⟨[], e, none, 0, rfl, h, rows_nil _ _, fun _ => rfl⟩, hF⟩
def GotO (w : World) (D : List Ses → Int → Prop) (v : Value) (w' : World) : Prop := (∃ (K : List Ses) (err : Int) (A' : Option Addr) (c' : Nat), v = .tuple #[.slice A' K.length c', .int .i64 err] ∧ D K err ∧ RowS w' A' K ∧ (A' = none → c' = 0) ∧ ∀ q, A'.map (·.block) = some q → w.heap.size ≤ q) ∧ From w w'
theorem gotO_nil (w : World) (e : Int) (D : List Ses → Int → Prop) (w' : World) (h : D [] e) (hF : From w w') : GotO w D (.tuple #[.slice none 0 0, .int .i64 e]) w' := ⟨⟨[], e, none, 0, rfl, h, rows_nil _ _, fun _ => rfl, fun q hq => (by cases hq)⟩, hF⟩
theorem own_none {w : World} {base e n c m s : Nat} {A : Option Addr} {xs : List Value} (h : w.ownsRow base e s (.slice A n c) m xs) : A = none → c = 0 := fun hA => by
  rcases h.2 with ⟨h0, _⟩ | ⟨g, cap, cur, hv, _⟩
  · simp only [Value.slice.injEq] at h0
    exact h0.2.2
  · simp only [Value.slice.injEq] at hv
    rw [hv.1] at hA
    cases hA
def GotP (w : World) (D : List Ses → Int → Prop) (v : Value) (w' : World) : Prop := (∃ (K : List Ses) (err : Int) (A' : Option Addr) (c' : Nat), v = .tuple #[.slice A' K.length c', .int .i64 err] ∧ D K err ∧ ∃ base, w.heap.size ≤ base ∧ w'.ownsRow base 60 6 (.slice A' K.length c') K.length (K.flatMap sesV)) ∧ From w w'
theorem gotP_nil (w : World) (e : Int) (D : List Ses → Int → Prop) (w' : World) (h : D [] e) (hF : From w w') : GotP w D (.tuple #[.slice none 0 0, .int .i64 e]) w' := ⟨⟨[], e, none, 0, rfl, h, _, Nat.le_refl _, World.ownsRow_nil _ _ _ _⟩, hF⟩
theorem gotO_of {w w' : World} {D : List Ses → Int → Prop} {v : Value} (h : GotP w D v w') : GotO w D v w' := by
  obtain ⟨⟨K, err, A, c, e, hd, base, hb, ho⟩, hF⟩ := h
  exact ⟨⟨K, err, A, c, e, hd, (rowS_own ho).2, own_none ho, fun q hq => Nat.le_trans hb (own_at ho q hq).1⟩, hF⟩
theorem gotN_of {w w' : World} {D : List Ses → Int → Prop} {v : Value} (h : GotP w D v w') : GotN w D v w' := by
  obtain ⟨⟨K, err, A, c, e, hd, h1, h2, _⟩, hF⟩ := gotO_of h
  exact ⟨⟨K, err, A, c, e, hd, h1, h2⟩, hF⟩
set_option maxRecDepth 100000 in
set_option maxHeartbeats 2000000 in
theorem done_p (A : Option Addr) (c : Nat) (L : List Ses) (w : World) (hr : RowS w A L) (hl : L.length ≤ 1000) (hn0 : A = none → c = 0) (cl sq e n idx : Int) (H : Option Addr) (hl0 hc0 : Nat) (hv : ValidL L) :
    Rt Try.prog 20 [.slice A L.length c, .int .i64 cl, .int .i64 sq, .agg #[.int .i64 e, .int .i64 n, .slice H hl0 hc0], .int .i64 idx] w (fun v w' => GotP w (DoneGot L cl sq e n hl0 idx) v w') := by
  have hv8 := hv.1
  refine enter (n := 50) Try.func20 rfl rfl rfl ?_
  refine cd_seq ?_
  refine cd_region ?_
  refine st_box (v := .agg _) rfl ?_
  intro b8 w1 E8 hb8 hk8
  have hg8 : w.heap.size ≤ b8 := Nat.le_of_eq hb8.symm
  have hl8 := hk8.lt
  refine st_val (ro_assign (v := .slice _ _ _) rfl) ?_
  refine st_val (ro_assign (v := .int _ _) rfl) ?_
  refine st_nil ?_
  refine nx_then ?_
  refine cd_seq ?_
  refine cd_seq ?_
  refine cd_region ?_
  refine st_val (ro_move (v := .slice _ _ _) rfl) ?_
  refine st_call SesDone_k13 (check_ok A c L _ (hr.from_ (From.rfl_.next E8)) (by omega) hv) ?_
  rintro v16 w2 ⟨rfl, E16⟩
  refine st_val (ro_bf (ro_neq rfl rfl) rfl) ?_
  refine st_val (ro_move (v := .bool _) rfl) ?_
  refine st_unguard rfl ?_
  refine st_val (ro_move (v := .int _ _) rfl) ?_
  refine st_unguard rfl ?_
  refine st_val (ro_move (v := .int _ _) rfl) ?_
  refine st_unguard rfl ?_
  refine st_lits [.tmp 19, .tmp 20] [.int _ _, .int _ _] SesDone_q55 rfl rfl rfl rfl (by simp [Value.cells]) ?_
  intro b21 w3 E21 hb21 hk21
  refine st_unguard rfl ?_
  refine st_call SesDone_k37 (within2 1 sq idx b21 _ hk21) ?_
  rintro v22 w4 ⟨rfl, rfl⟩
  refine st_unguard rfl ?_
  refine st_val (ro_not rfl) ?_
  refine st_val (ro_pickF (v := .bool _) rfl rfl) ?_
  refine st_val (ro_move (v := .bool _) rfl) ?_
  refine st_split (t := 25) rfl (fun Q5 => ?_) (fun Q5 => ?_)
  · (try first | replace Q5 := bn_t Q5 | replace Q5 := bn_f Q5)
    (try first | replace Q5 := bx_t Q5 | replace Q5 := bx_f Q5 | replace Q5 := be_t Q5 | replace Q5 := be_f Q5 | replace Q5 := of_decide_eq_true Q5 | replace Q5 := of_decide_eq_false Q5)
    have hD : okD sq idx e n hl0 = false := by unfold okD; rw [Q5]; rfl
    first
     | (exfalso; first | omega | contradiction | (cases Q5; done))
     | skip
       refine st_gno rfl rfl ?_
       refine st_gno rfl rfl ?_
       refine st_gno rfl rfl ?_
       refine st_val (ro_pickT (v := .bool _) rfl rfl) ?_
       refine st_nil ?_
       refine nx_then ?_
       refine cd_condT rfl ?_
       refine cd_seq ?_
       refine cd_region ?_
       refine st_val (ro_assign (v := .slice _ _ _) rfl) ?_
       refine st_val (ro_assign (v := .int _ _) rfl) ?_
       refine st_nil ?_
       refine nx_then ?_
       refine cd_ret ?_
       refine rt_then ?_
       refine res2 (v := .slice _ _ _) (v' := .int _ _) rfl rfl rfl ?_
       exact gotP_nil _ _ _ _ (.inl ⟨hD, rfl, rfl⟩) (((From.rfl_.next E8).next E16).next E21)
  · (try first | replace Q5 := bn_t Q5 | replace Q5 := bn_f Q5)
    (try first | replace Q5 := bx_t Q5 | replace Q5 := bx_f Q5 | replace Q5 := be_t Q5 | replace Q5 := be_f Q5 | replace Q5 := of_decide_eq_true Q5 | replace Q5 := of_decide_eq_false Q5)
    have hD1 := Q5
    first
     | (exfalso; first | omega | contradiction | (cases Q5; done))
     | skip
       refine st_unguard rfl ?_
       refine st_val (ro_loadA (cs := [_, _, _]) SesDone_g31 SesDone_z31 rfl (by exact (hk8.from_ ((From.rfl_.next E16).next E21)).whole)) ?_
       refine st_unguard rfl ?_
       refine st_call SesDone_k41 (validReply_rt e n H hl0 hc0 _) ?_
       rintro v27 w6 ⟨rfl, E27⟩
       refine st_unguard rfl ?_
       refine st_val (ro_not rfl) ?_
       refine st_val (ro_pickF (v := .bool _) rfl rfl) ?_
       refine st_nil ?_
       refine nx_then ?_
       refine cd_cond rfl (fun Q7 => ?_) (fun Q7 => ?_)
       · (try first | replace Q7 := bn_t Q7 | replace Q7 := bn_f Q7)
         (try first | replace Q7 := bx_t Q7 | replace Q7 := bx_f Q7 | replace Q7 := be_t Q7 | replace Q7 := be_f Q7 | replace Q7 := of_decide_eq_true Q7 | replace Q7 := of_decide_eq_false Q7)
         have hv29 : vR e n hl0 = false := decide_eq_false Q7
         have hD : okD sq idx e n hl0 = false := by unfold okD; rw [hD1, hv29]; rfl
         first
          | (exfalso; first | omega | contradiction | (cases Q7; done))
          | skip
            refine cd_seq ?_
            refine cd_region ?_
            refine st_val (ro_assign (v := .slice _ _ _) rfl) ?_
            refine st_val (ro_assign (v := .int _ _) rfl) ?_
            refine st_nil ?_
            refine nx_then ?_
            refine cd_ret ?_
            refine rt_then ?_
            refine res2 (v := .slice _ _ _) (v' := .int _ _) rfl rfl rfl ?_
            exact gotP_nil _ _ _ _ (.inl ⟨hD, rfl, rfl⟩) ((((From.rfl_.next E8).next E16).next E21).next E27)
       · (try first | replace Q7 := bn_t Q7 | replace Q7 := bn_f Q7)
         (try first | replace Q7 := bx_t Q7 | replace Q7 := bx_f Q7 | replace Q7 := be_t Q7 | replace Q7 := be_f Q7 | replace Q7 := of_decide_eq_true Q7 | replace Q7 := of_decide_eq_false Q7)
         have hv29 : vR e n hl0 = true := decide_eq_true Q7
         have hD : okD sq idx e n hl0 = true := by unfold okD; rw [hD1, hv29]; rfl
         first
          | (exfalso; first | omega | contradiction | (cases Q7; done))
          | skip
            refine cd_skip ?_
            refine nx_then ?_
            refine cd_seq ?_
            refine cd_region ?_
            refine st_val (ro_move (v := .slice _ _ _) rfl) ?_
            refine st_val (ro_move (v := .int _ _) rfl) ?_
            refine st_call SesDone_k38 (find_rt A c L _ (hr.from_ ((((From.rfl_.next E8).next E16).next E21).next E27)) (by omega) cl (valid_rise hv)) ?_
            rintro v33 w8 ⟨hg33, E33⟩
            rcases hg33 with ⟨i, hi, he, rfl⟩ | ⟨i, hi, h1, h2, rfl⟩
            · refine st_val (ro_move (v := .tuple _) rfl) ?_
              refine st_val (ro_extract rfl rfl) ?_
              refine st_val (ro_extract rfl rfl) ?_
              refine st_val (ro_assign (v := .int _ _) rfl) ?_
              refine st_val (ro_assign (v := .bool _) rfl) ?_
              refine st_nil ?_
              refine nx_then ?_
              refine cd_seq ?_
              refine cd_seq ?_
              refine cd_region ?_
              refine st_val (ro_move (v := .bool _) rfl) ?_
              refine st_val (ro_not rfl) ?_
              refine st_nil ?_
              refine nx_then ?_
              refine cd_cond rfl (fun Q9 => ?_) (fun Q9 => ?_)
              · (try first | replace Q9 := bn_t Q9 | replace Q9 := bn_f Q9)
                (try first | replace Q9 := bx_t Q9 | replace Q9 := bx_f Q9 | replace Q9 := be_t Q9 | replace Q9 := be_f Q9 | replace Q9 := of_decide_eq_true Q9 | replace Q9 := of_decide_eq_false Q9)
                first
                 | (exfalso; first | omega | contradiction | (cases Q9; done))
                 | skip
                   refine cd_seq ?_
                   refine cd_region ?_
                   refine st_val (ro_assign (v := .slice _ _ _) rfl) ?_
                   refine st_val (ro_assign (v := .int _ _) rfl) ?_
                   refine st_nil ?_
                   refine nx_then ?_
                   refine cd_ret ?_
                   refine rt_then ?_
                   refine res2 (v := .slice _ _ _) (v' := .int _ _) rfl rfl rfl ?_
                   exact gotP_nil _ _ _ _ (.inr (.inl ⟨hD, not_in h1 h2, rfl, rfl⟩)) (((((From.rfl_.next E8).next E16).next E21).next E27).next E33)
              · (try first | replace Q9 := bn_t Q9 | replace Q9 := bn_f Q9)
                (try first | replace Q9 := bx_t Q9 | replace Q9 := bx_f Q9 | replace Q9 := be_t Q9 | replace Q9 := be_f Q9 | replace Q9 := of_decide_eq_true Q9 | replace Q9 := of_decide_eq_false Q9)
                first
                 | (exfalso; first | omega | contradiction | (cases Q9; done))
                 | skip
                   refine cd_skip ?_
                   refine nx_then ?_
                   refine cd_seq ?_
                   refine cd_region ?_
                   refine st_val (ro_fieldAddr SesDone_f31_2 rfl) ?_
                   refine st_put (v := .slice _ _ _) SesDone_z29 rfl rfl rfl ((hk8.from_ ((((From.rfl_.next E16).next E21).next E27).next E33))) (by show 0 + 2 < 3; decide) ?_
                   intro w10 O6 P6
                   have P6b : Blk w10 b8 31 [.int .i64 e, .int .i64 n, .slice none 0 0].toArray := P6
                   refine st_nil ?_
                   refine nx_then ?_
                   refine cd_seq ?_
                   refine cd_region ?_
                   refine st_val (ro_move (v := .slice _ _ _) rfl) ?_
                   have hB40 : From w w10 := ((((((From.rfl_.next E8).next E16).next E21).next E27).next E33).only O6 (hg8))
                   refine st_call SesDone_k42 (cloneS_rt A c L _ (hr.from_ ((((((From.rfl_.next E8).next E16).next E21).next E27).next E33).only O6 (hg8))) hl hn0) ?_
                   rintro v40 w11 ⟨⟨A40, c40, rfl, ho40⟩, E40⟩
                   obtain ⟨g40, rfl⟩ := own_some ho40 (by omega)
                   refine st_val (ro_assign (v := .slice _ _ _) rfl) ?_
                   refine st_nil ?_
                   refine nx_then ?_
                   refine cd_seq ?_
                   refine cd_region ?_
                   refine st_val (ro_move (v := .slice _ _ _) rfl) ?_
                   refine st_val (ro_move (v := .int _ _) rfl) ?_
                   refine st_val (ro_move (v := .int _ _) rfl) ?_
                   refine st_val (ro_move (v := .int _ _) rfl) ?_
                   refine st_val (ro_loadA (cs := [_, _, _]) SesDone_g31 SesDone_z31 rfl (by exact (P6b.from_ (From.rfl_.next E40)).whole)) ?_
                   refine st_val (ro_move (v := .int _ _) rfl) ?_
                   refine st_val (ro_build (l := [(0, .tmp 43), (1, .tmp 44), (2, .tmp 45), (3, .tmp 46)]) (SesDone_b60_0_1_2_3 _ _ _ _ _ _ _ _)) ?_
                   refine st_val (ro_indexAddrN (i := i) SesDone_e22 rfl rfl hi) ?_
                   refine st_putOwnK (size := 6) (o := i * 6) (vs := sesV ⟨cl, sq, e, n, none, 0, 0, idx⟩) SesDone_z60 (by show Value.pointer (some ⟨g40, 0 + i * 6, none⟩) = _; rw [Nat.zero_add]) rfl (by simp [sesV, Value.oneCell']) ho40 (by omega) (by show i * 6 + 6 ≤ L.length * 6; omega) ?_
                   intro w12 O9 P9
                   rw [ses_over _ (by rw [List.length_map]; exact hi)] at P9
                   refine st_nil ?_
                   refine nx_then ?_
                   refine cd_seq ?_
                   refine cd_region ?_
                   refine st_val (ro_move (v := .slice _ _ _) rfl) ?_
                   refine st_val (ro_assign (v := .slice _ _ _) rfl) ?_
                   refine st_val (ro_assign (v := .int _ _) rfl) ?_
                   refine st_nil ?_
                   refine nx_then ?_
                   refine cd_ret ?_
                   refine res2 (v := .slice _ _ _) (v' := .int _ _) rfl rfl rfl ?_
                   exact ⟨⟨_, _, _, c40, by rw [List.length_set, List.length_map], .inr (.inr ⟨i, hi, hD, he, rfl, rfl⟩), _, hB40.size, by rw [List.length_set, List.length_map]; exact P9⟩, ((((((((From.rfl_.next E8).next E16).next E21).next E27).next E33).only O6 (hg8)).next E40).only O9 (Nat.le_trans hB40.size (own_at ho40 _ rfl).1))⟩
            · refine st_val (ro_move (v := .tuple _) rfl) ?_
              refine st_val (ro_extract rfl rfl) ?_
              refine st_val (ro_extract rfl rfl) ?_
              refine st_val (ro_assign (v := .int _ _) rfl) ?_
              refine st_val (ro_assign (v := .bool _) rfl) ?_
              refine st_nil ?_
              refine nx_then ?_
              refine cd_seq ?_
              refine cd_seq ?_
              refine cd_region ?_
              refine st_val (ro_move (v := .bool _) rfl) ?_
              refine st_val (ro_not rfl) ?_
              refine st_nil ?_
              refine nx_then ?_
              refine cd_cond rfl (fun Q13 => ?_) (fun Q13 => ?_)
              · (try first | replace Q13 := bn_t Q13 | replace Q13 := bn_f Q13)
                (try first | replace Q13 := bx_t Q13 | replace Q13 := bx_f Q13 | replace Q13 := be_t Q13 | replace Q13 := be_f Q13 | replace Q13 := of_decide_eq_true Q13 | replace Q13 := of_decide_eq_false Q13)
                first
                 | (exfalso; first | omega | contradiction | (cases Q13; done))
                 | skip
                   refine cd_seq ?_
                   refine cd_region ?_
                   refine st_val (ro_assign (v := .slice _ _ _) rfl) ?_
                   refine st_val (ro_assign (v := .int _ _) rfl) ?_
                   refine st_nil ?_
                   refine nx_then ?_
                   refine cd_ret ?_
                   refine rt_then ?_
                   refine res2 (v := .slice _ _ _) (v' := .int _ _) rfl rfl rfl ?_
                   exact gotP_nil _ _ _ _ (.inr (.inl ⟨hD, not_in h1 h2, rfl, rfl⟩)) (((((From.rfl_.next E8).next E16).next E21).next E27).next E33)
              · (try first | replace Q13 := bn_t Q13 | replace Q13 := bn_f Q13)
                (try first | replace Q13 := bx_t Q13 | replace Q13 := bx_f Q13 | replace Q13 := be_t Q13 | replace Q13 := be_f Q13 | replace Q13 := of_decide_eq_true Q13 | replace Q13 := of_decide_eq_false Q13)
                first
                 | (exfalso; first | omega | contradiction | (cases Q13; done))
                 | skip
                   refine cd_skip ?_
                   refine nx_then ?_
                   refine cd_seq ?_
                   refine cd_region ?_
                   refine st_val (ro_fieldAddr SesDone_f31_2 rfl) ?_
                   refine st_put (v := .slice _ _ _) SesDone_z29 rfl rfl rfl ((hk8.from_ ((((From.rfl_.next E16).next E21).next E27).next E33))) (by show 0 + 2 < 3; decide) ?_
                   intro w14 O6 P6
                   have P6b : Blk w14 b8 31 [.int .i64 e, .int .i64 n, .slice none 0 0].toArray := P6
                   refine st_nil ?_
                   refine nx_then ?_
                   refine cd_seq ?_
                   refine cd_region ?_
                   refine st_val (ro_move (v := .slice _ _ _) rfl) ?_
                   have hB40 : From w w14 := ((((((From.rfl_.next E8).next E16).next E21).next E27).next E33).only O6 (hg8))
                   refine st_call SesDone_k42 (cloneS_rt A c L _ (hr.from_ ((((((From.rfl_.next E8).next E16).next E21).next E27).next E33).only O6 (hg8))) hl hn0) ?_
                   rintro v40 w15 ⟨⟨A40, c40, rfl, ho40⟩, E40⟩
                   obtain ⟨g40, rfl⟩ := own_some ho40 (by omega)
                   refine st_val (ro_assign (v := .slice _ _ _) rfl) ?_
                   refine st_nil ?_
                   refine nx_then ?_
                   refine cd_seq ?_
                   refine cd_region ?_
                   refine st_val (ro_move (v := .slice _ _ _) rfl) ?_
                   refine st_val (ro_move (v := .int _ _) rfl) ?_
                   refine st_val (ro_move (v := .int _ _) rfl) ?_
                   refine st_val (ro_move (v := .int _ _) rfl) ?_
                   refine st_val (ro_loadA (cs := [_, _, _]) SesDone_g31 SesDone_z31 rfl (by exact (P6b.from_ (From.rfl_.next E40)).whole)) ?_
                   refine st_val (ro_move (v := .int _ _) rfl) ?_
                   refine st_val (ro_build (l := [(0, .tmp 43), (1, .tmp 44), (2, .tmp 45), (3, .tmp 46)]) (SesDone_b60_0_1_2_3 _ _ _ _ _ _ _ _)) ?_
                   refine st_val (ro_indexAddrN (i := i) SesDone_e22 rfl rfl hi) ?_
                   refine st_putOwnK (size := 6) (o := i * 6) (vs := sesV ⟨cl, sq, e, n, none, 0, 0, idx⟩) SesDone_z60 (by show Value.pointer (some ⟨g40, 0 + i * 6, none⟩) = _; rw [Nat.zero_add]) rfl (by simp [sesV, Value.oneCell']) ho40 (by omega) (by show i * 6 + 6 ≤ L.length * 6; omega) ?_
                   intro w16 O9 P9
                   rw [ses_over _ (by rw [List.length_map]; exact hi)] at P9
                   refine st_nil ?_
                   refine nx_then ?_
                   refine cd_seq ?_
                   refine cd_region ?_
                   refine st_val (ro_move (v := .slice _ _ _) rfl) ?_
                   refine st_val (ro_assign (v := .slice _ _ _) rfl) ?_
                   refine st_val (ro_assign (v := .int _ _) rfl) ?_
                   refine st_nil ?_
                   refine nx_then ?_
                   refine cd_ret ?_
                   refine res2 (v := .slice _ _ _) (v' := .int _ _) rfl rfl rfl ?_
                   exact ⟨⟨_, _, _, c40, by rw [List.length_set, List.length_map], .inr (.inr ⟨i, hi, hD, he, rfl, rfl⟩), _, hB40.size, by rw [List.length_set, List.length_map]; exact P9⟩, ((((((((From.rfl_.next E8).next E16).next E21).next E27).next E33).only O6 (hg8)).next E40).only O9 (Nat.le_trans hB40.size (own_at ho40 _ rfl).1))⟩
theorem done_rt (A : Option Addr) (c : Nat) (L : List Ses) (w : World) (hr : RowS w A L) (hl : L.length ≤ 1000) (hn0 : A = none → c = 0) (cl sq e n idx : Int) (H : Option Addr) (hl0 hc0 : Nat) (hv : ValidL L) : Rt Try.prog 20 [.slice A L.length c, .int .i64 cl, .int .i64 sq, .agg #[.int .i64 e, .int .i64 n, .slice H hl0 hc0], .int .i64 idx] w fun v w' => GotN w (DoneGot L cl sq e n hl0 idx) v w' := (done_p A c L w hr hl hn0 cl sq e n idx H hl0 hc0 hv).mono fun _ _ h => gotN_of h
set_option maxRecDepth 100000 in
set_option maxHeartbeats 2000000 in
theorem refDone_rt (A : Option Addr) (c : Nat) (L : List Ses) (w : World) (hr : RowS w A L) (hl : L.length ≤ 1000) (hn0 : A = none → c = 0) (cl sq e n idx : Int) (H : Option Addr) (hl0 hc0 : Nat) (h0 : ∀ i (h : i < L.length), L[i].hl = 0) :
    Rt Try.prog 19 [.slice A L.length c, .int .i64 cl, .int .i64 sq, .agg #[.int .i64 e, .int .i64 n, .slice H hl0 hc0], .int .i64 idx] w (fun v w' => GotL w (DoneGot L cl sq e n hl0 idx) v w') := by
  refine enter (n := 51) Try.func19 rfl rfl rfl ?_
  refine cd_seq ?_
  refine cd_region ?_
  refine st_box (v := .agg _) rfl ?_
  intro b8 w1 E8 hb8 hk8
  have hg8 : w.heap.size ≤ b8 := Nat.le_of_eq hb8.symm
  have hl8 := hk8.lt
  refine st_val (ro_assign (v := .slice _ _ _) rfl) ?_
  refine st_val (ro_assign (v := .int _ _) rfl) ?_
  refine st_nil ?_
  refine nx_then ?_
  refine cd_seq ?_
  refine cd_seq ?_
  refine cd_region ?_
  refine st_val (ro_move (v := .int _ _) rfl) ?_
  refine st_call SesDone_k32 (id_rt sq _) ?_
  rintro v15 w2 ⟨rfl, rfl⟩
  refine st_val (ro_not rfl) ?_
  refine st_val (ro_move (v := .bool _) rfl) ?_
  refine st_split (t := 17) rfl (fun Q3 => ?_) (fun Q3 => ?_)
  · (try first | replace Q3 := bn_t Q3 | replace Q3 := bn_f Q3)
    (try first | replace Q3 := bx_t Q3 | replace Q3 := bx_f Q3 | replace Q3 := be_t Q3 | replace Q3 := be_f Q3 | replace Q3 := of_decide_eq_true Q3 | replace Q3 := of_decide_eq_false Q3)
    have hD0 : inE 1 sq = false := decide_eq_false Q3
    have hD : okD sq idx e n hl0 = false := by unfold okD; rw [hD0]; rfl
    first
     | (exfalso; first | omega | contradiction | (cases Q3; done))
     | skip
       refine st_gno rfl rfl ?_
       refine st_gno rfl rfl ?_
       refine st_gno rfl rfl ?_
       refine st_val (ro_pickT (v := .bool _) rfl rfl) ?_
       refine st_val (ro_move (v := .bool _) rfl) ?_
       refine st_gno rfl rfl ?_
       refine st_gno rfl rfl ?_
       refine st_gno rfl rfl ?_
       refine st_val (ro_pickT (v := .bool _) rfl rfl) ?_
       refine st_nil ?_
       refine nx_then ?_
       refine cd_condT rfl ?_
       refine cd_seq ?_
       refine cd_region ?_
       refine st_val (ro_assign (v := .slice _ _ _) rfl) ?_
       refine st_val (ro_assign (v := .int _ _) rfl) ?_
       refine st_nil ?_
       refine nx_then ?_
       refine cd_ret ?_
       refine rt_then ?_
       refine res2 (v := .slice _ _ _) (v' := .int _ _) rfl rfl rfl ?_
       exact got_nil _ _ _ _ (.inl ⟨hD, rfl, rfl⟩) (From.rfl_.next E8)
  · (try first | replace Q3 := bn_t Q3 | replace Q3 := bn_f Q3)
    (try first | replace Q3 := bx_t Q3 | replace Q3 := bx_f Q3 | replace Q3 := be_t Q3 | replace Q3 := be_f Q3 | replace Q3 := of_decide_eq_true Q3 | replace Q3 := of_decide_eq_false Q3)
    have hD0 : inE 1 sq = true := decide_eq_true Q3
    first
     | (exfalso; first | omega | contradiction | (cases Q3; done))
     | skip
       refine st_unguard rfl ?_
       refine st_val (ro_move (v := .int _ _) rfl) ?_
       refine st_unguard rfl ?_
       refine st_call SesDone_k32 (id_rt idx _) ?_
       rintro v19 w4 ⟨rfl, rfl⟩
       refine st_unguard rfl ?_
       refine st_val (ro_not rfl) ?_
       refine st_val (ro_pickF (v := .bool _) rfl rfl) ?_
       refine st_val (ro_move (v := .bool _) rfl) ?_
       refine st_split (t := 22) rfl (fun Q5 => ?_) (fun Q5 => ?_)
       · (try first | replace Q5 := bn_t Q5 | replace Q5 := bn_f Q5)
         (try first | replace Q5 := bx_t Q5 | replace Q5 := bx_f Q5 | replace Q5 := be_t Q5 | replace Q5 := be_f Q5 | replace Q5 := of_decide_eq_true Q5 | replace Q5 := of_decide_eq_false Q5)
         have hD1 : inE 1 idx = false := decide_eq_false Q5
         have hD : okD sq idx e n hl0 = false := by unfold okD; rw [hD0, hD1]; rfl
         first
          | (exfalso; first | omega | contradiction | (cases Q5; done))
          | skip
            refine st_gno rfl rfl ?_
            refine st_gno rfl rfl ?_
            refine st_gno rfl rfl ?_
            refine st_val (ro_pickT (v := .bool _) rfl rfl) ?_
            refine st_nil ?_
            refine nx_then ?_
            refine cd_condT rfl ?_
            refine cd_seq ?_
            refine cd_region ?_
            refine st_val (ro_assign (v := .slice _ _ _) rfl) ?_
            refine st_val (ro_assign (v := .int _ _) rfl) ?_
            refine st_nil ?_
            refine nx_then ?_
            refine cd_ret ?_
            refine rt_then ?_
            refine res2 (v := .slice _ _ _) (v' := .int _ _) rfl rfl rfl ?_
            exact got_nil _ _ _ _ (.inl ⟨hD, rfl, rfl⟩) (From.rfl_.next E8)
       · (try first | replace Q5 := bn_t Q5 | replace Q5 := bn_f Q5)
         (try first | replace Q5 := bx_t Q5 | replace Q5 := bx_f Q5 | replace Q5 := be_t Q5 | replace Q5 := be_f Q5 | replace Q5 := of_decide_eq_true Q5 | replace Q5 := of_decide_eq_false Q5)
         have hD1 : inE 1 idx = true := decide_eq_true Q5
         first
          | (exfalso; first | omega | contradiction | (cases Q5; done))
          | skip
            refine st_unguard rfl ?_
            refine st_val (ro_loadA (cs := [_, _, _]) SesDone_g31 SesDone_z31 rfl (by exact (hk8.from_ From.rfl_).whole)) ?_
            refine st_unguard rfl ?_
            refine st_call SesDone_k34 (mayReply_rt e n H hl0 hc0 _) ?_
            rintro v24 w6 ⟨rfl, E24⟩
            refine st_unguard rfl ?_
            refine st_val (ro_not rfl) ?_
            refine st_val (ro_pickF (v := .bool _) rfl rfl) ?_
            refine st_nil ?_
            refine nx_then ?_
            refine cd_cond rfl (fun Q7 => ?_) (fun Q7 => ?_)
            · (try first | replace Q7 := bn_t Q7 | replace Q7 := bn_f Q7)
              (try first | replace Q7 := bx_t Q7 | replace Q7 := bx_f Q7 | replace Q7 := be_t Q7 | replace Q7 := be_f Q7 | replace Q7 := of_decide_eq_true Q7 | replace Q7 := of_decide_eq_false Q7)
              have hD2 : vR e n hl0 = false := decide_eq_false Q7
              have hD : okD sq idx e n hl0 = false := by unfold okD; rw [hD0, hD1, hD2]; rfl
              first
               | (exfalso; first | omega | contradiction | (cases Q7; done))
               | skip
                 refine cd_seq ?_
                 refine cd_region ?_
                 refine st_val (ro_assign (v := .slice _ _ _) rfl) ?_
                 refine st_val (ro_assign (v := .int _ _) rfl) ?_
                 refine st_nil ?_
                 refine nx_then ?_
                 refine cd_ret ?_
                 refine rt_then ?_
                 refine res2 (v := .slice _ _ _) (v' := .int _ _) rfl rfl rfl ?_
                 exact got_nil _ _ _ _ (.inl ⟨hD, rfl, rfl⟩) ((From.rfl_.next E8).next E24)
            · (try first | replace Q7 := bn_t Q7 | replace Q7 := bn_f Q7)
              (try first | replace Q7 := bx_t Q7 | replace Q7 := bx_f Q7 | replace Q7 := be_t Q7 | replace Q7 := be_f Q7 | replace Q7 := of_decide_eq_true Q7 | replace Q7 := of_decide_eq_false Q7)
              have hD2 : vR e n hl0 = true := decide_eq_true Q7
              have hh0 : hl0 = 0 := (Q7).2.2
              subst hh0
              have hD : okD sq idx e n 0 = true := by unfold okD; rw [hD0, hD1, hD2]; rfl
              first
               | (exfalso; first | omega | contradiction | (cases Q7; done))
               | skip
                 refine cd_skip ?_
                 refine nx_then ?_
                 refine cd_seq ?_
                 refine cd_region ?_
                 refine st_val (ro_move (v := .slice _ _ _) rfl) ?_
                 refine st_val (ro_move (v := .int _ _) rfl) ?_
                 refine st_call SesDone_k36 (refFind_rt A c L _ (hr.from_ ((From.rfl_.next E8).next E24)) (by omega) cl) ?_
                 rintro v29 w8 ⟨hg29, rfl⟩
                 rcases hg29 with ⟨i, hi, he, rfl⟩ | ⟨hno, rfl⟩
                 · refine st_val (ro_assign (v := .int _ _) rfl) ?_
                   refine st_nil ?_
                   refine nx_then ?_
                   refine cd_seq ?_
                   refine cd_seq ?_
                   refine cd_region ?_
                   refine st_val (ro_move (v := .int _ _) rfl) ?_
                   refine st_val (ro_lss rfl rfl) ?_
                   refine st_nil ?_
                   refine nx_then ?_
                   refine cd_cond rfl (fun Q9 => ?_) (fun Q9 => ?_)
                   · (try first | replace Q9 := bn_t Q9 | replace Q9 := bn_f Q9)
                     (try first | replace Q9 := bx_t Q9 | replace Q9 := bx_f Q9 | replace Q9 := be_t Q9 | replace Q9 := be_f Q9 | replace Q9 := of_decide_eq_true Q9 | replace Q9 := of_decide_eq_false Q9)
                     first
                      | (exfalso; first | omega | contradiction | (cases Q9; done))
                      | skip
                        refine cd_seq ?_
                        refine cd_region ?_
                        refine st_val (ro_assign (v := .slice _ _ _) rfl) ?_
                        refine st_val (ro_assign (v := .int _ _) rfl) ?_
                        refine st_nil ?_
                        refine nx_then ?_
                        refine cd_ret ?_
                        refine rt_then ?_
                        refine res2 (v := .slice _ _ _) (v' := .int _ _) rfl rfl rfl ?_
                        first
                          | exact got_nil _ _ _ _ (.inr (.inl ⟨hD, hno, rfl, rfl⟩)) ((From.rfl_.next E8).next E24)
                          | (exfalso; omega)
                   · (try first | replace Q9 := bn_t Q9 | replace Q9 := bn_f Q9)
                     (try first | replace Q9 := bx_t Q9 | replace Q9 := bx_f Q9 | replace Q9 := be_t Q9 | replace Q9 := be_f Q9 | replace Q9 := of_decide_eq_true Q9 | replace Q9 := of_decide_eq_false Q9)
                     first
                      | (exfalso; first | omega | contradiction | (cases Q9; done))
                      | skip
                        refine cd_skip ?_
                        refine nx_then ?_
                        refine cd_seq ?_
                        refine cd_region ?_
                        refine st_val (ro_move (v := .slice _ _ _) rfl) ?_
                        have hB40 : From w w6 := ((From.rfl_.next E8).next E24)
                        refine st_call SesDone_k10 (copySessions0 A c L _ (hr.from_ ((From.rfl_.next E8).next E24)) hl h0) ?_
                        rintro v33 w10 ⟨⟨A40, c40, rfl, ho40⟩, E33⟩
                        obtain ⟨g40, rfl⟩ := own_some ho40 (by omega)
                        refine st_val (ro_assign (v := .slice _ _ _) rfl) ?_
                        refine st_nil ?_
                        refine nx_then ?_
                        refine cd_seq ?_
                        refine cd_region ?_
                        refine st_val (ro_move (v := .slice _ _ _) rfl) ?_
                        refine st_val (ro_move (v := .int _ _) rfl) ?_
                        refine st_val (ro_move (v := .slice _ _ _) rfl) ?_
                        refine st_val (ro_move (v := .int _ _) rfl) ?_
                        refine st_val (ro_move (v := .slice _ _ _) rfl) ?_
                        refine st_val (ro_move (v := .int _ _) rfl) ?_
                        refine st_val (ro_move (v := .int _ _) rfl) ?_
                        refine st_val (ro_loadA (cs := [_, _, _]) SesDone_g31 SesDone_z31 rfl (by exact (hk8.from_ ((From.rfl_.next E24).next E33)).whole)) ?_
                        refine st_call SesDone_k21 (copyReply0 e n H hc0 _) ?_
                        rintro v42 w11 ⟨rfl, E42⟩
                        replace ho40 := ho40.kept_from E42
                        refine st_val (ro_move (v := .int _ _) rfl) ?_
                        refine st_val (ro_indexAddrN (i := i) SesDone_e22 rfl rfl hi) ?_
                        refine st_val (ro_fieldAddr SesDone_f60_1 rfl) ?_
                        refine st_putOwnC (size := 6) (o := i * 6 + 1) (v := .int .i64 sq) SesDone_z3 (by show Value.pointer (some ⟨g40, 0 + i * 6 + 1, none⟩) = _; rw [Nat.zero_add]) rfl rfl ho40 (by omega) ?_
                        intro w12 O1 P1
                        rw [set_flat ses_len _ i 1 (by rw [List.length_map]; exact hi) (by decide) { norm L[i] with s := sq } _ (by rw [List.getElem_map]; rfl)] at P1
                        refine st_val (ro_indexAddrN (i := i) SesDone_e22 rfl rfl hi) ?_
                        refine st_val (ro_fieldAddr SesDone_f60_2 rfl) ?_
                        refine st_putOwnK (size := 6) (o := i * 6 + 2) (vs := [.int .i64 e, .int .i64 n, .slice none 0 0]) SesDone_z31 (by show Value.pointer (some ⟨g40, 0 + i * 6 + 2, none⟩) = _; rw [Nat.zero_add]) rfl (by simp [Value.oneCell']) P1 (by omega) (by show i * 6 + 2 + 3 ≤ L.length * 6; omega) ?_
                        intro w13 O2 P2
                        rw [mid_over (by rw [List.length_set, List.length_map]; exact hi) (x := ⟨cl, sq, e, n, none, 0, 0, (norm L[i]).u⟩) (by rw [List.getElem_set_self]; subst he; rfl), List.set_set] at P2
                        refine st_val (ro_indexAddrN (i := i) SesDone_e22 rfl rfl hi) ?_
                        refine st_val (ro_fieldAddr SesDone_f60_3 rfl) ?_
                        refine st_putOwnC (size := 6) (o := i * 6 + 5) (v := .int .i64 idx) SesDone_z3 (by show Value.pointer (some ⟨g40, 0 + i * 6 + 5, none⟩) = _; rw [Nat.zero_add]) rfl rfl P2 (by omega) ?_
                        intro w14 O3 P3
                        rw [set_flat ses_len _ i 5 (by rw [List.length_set, List.length_map]; exact hi) (by decide) ⟨cl, sq, e, n, none, 0, 0, idx⟩ _ (by rw [List.getElem_set_self]; rfl), List.set_set] at P3
                        refine st_nil ?_
                        refine nx_then ?_
                        refine cd_seq ?_
                        refine cd_region ?_
                        refine st_val (ro_move (v := .slice _ _ _) rfl) ?_
                        refine st_val (ro_assign (v := .slice _ _ _) rfl) ?_
                        refine st_val (ro_assign (v := .int _ _) rfl) ?_
                        refine st_nil ?_
                        refine nx_then ?_
                        refine cd_ret ?_
                        refine res2 (v := .slice _ _ _) (v' := .int _ _) rfl rfl rfl ?_
                        first
                          | (exfalso; omega)
                          | exact ⟨⟨_, _, _, c40, by rw [List.length_set, List.length_map], .inr (.inr ⟨i, hi, hD, he, rfl, rfl⟩), (rowS_own P3).2⟩, (((((((From.rfl_.next E8).next E24).next E33).next E42).only O1 (Nat.le_trans hB40.size (own_at ho40 _ rfl).1)).only O2 (Nat.le_trans hB40.size (own_at ho40 _ rfl).1)).only O3 (Nat.le_trans hB40.size (own_at ho40 _ rfl).1))⟩
                 · refine st_val (ro_assign (v := .int _ _) rfl) ?_
                   refine st_nil ?_
                   refine nx_then ?_
                   refine cd_seq ?_
                   refine cd_seq ?_
                   refine cd_region ?_
                   refine st_val (ro_move (v := .int _ _) rfl) ?_
                   refine st_val (ro_lss rfl rfl) ?_
                   refine st_nil ?_
                   refine nx_then ?_
                   refine cd_cond rfl (fun Q15 => ?_) (fun Q15 => ?_)
                   · (try first | replace Q15 := bn_t Q15 | replace Q15 := bn_f Q15)
                     (try first | replace Q15 := bx_t Q15 | replace Q15 := bx_f Q15 | replace Q15 := be_t Q15 | replace Q15 := be_f Q15 | replace Q15 := of_decide_eq_true Q15 | replace Q15 := of_decide_eq_false Q15)
                     first
                      | (exfalso; first | omega | contradiction | (cases Q15; done))
                      | skip
                        refine cd_seq ?_
                        refine cd_region ?_
                        refine st_val (ro_assign (v := .slice _ _ _) rfl) ?_
                        refine st_val (ro_assign (v := .int _ _) rfl) ?_
                        refine st_nil ?_
                        refine nx_then ?_
                        refine cd_ret ?_
                        refine rt_then ?_
                        refine res2 (v := .slice _ _ _) (v' := .int _ _) rfl rfl rfl ?_
                        first
                          | exact got_nil _ _ _ _ (.inr (.inl ⟨hD, hno, rfl, rfl⟩)) ((From.rfl_.next E8).next E24)
                          | (exfalso; omega)
                   · (try first | replace Q15 := bn_t Q15 | replace Q15 := bn_f Q15)
                     (try first | replace Q15 := bx_t Q15 | replace Q15 := bx_f Q15 | replace Q15 := be_t Q15 | replace Q15 := be_f Q15 | replace Q15 := of_decide_eq_true Q15 | replace Q15 := of_decide_eq_false Q15)
                     first
                      | (exfalso; first | omega | contradiction | (cases Q15; done))
                      | skip
                        refine cd_skip ?_
                        refine nx_then ?_
                        refine cd_seq ?_
                        refine cd_region ?_
                        refine st_val (ro_move (v := .slice _ _ _) rfl) ?_
                        have hB40 : From w w6 := ((From.rfl_.next E8).next E24)
                        refine st_call SesDone_k10 (copySessions0 A c L _ (hr.from_ ((From.rfl_.next E8).next E24)) hl h0) ?_
                        rintro v33 w16 ⟨⟨A40, c40, rfl, ho40⟩, E33⟩
                        obtain ⟨g40, rfl⟩ := own_some ho40 (by omega)
                        refine st_val (ro_assign (v := .slice _ _ _) rfl) ?_
                        refine st_nil ?_
                        refine nx_then ?_
                        refine cd_seq ?_
                        refine cd_region ?_
                        refine st_val (ro_move (v := .slice _ _ _) rfl) ?_
                        refine st_val (ro_move (v := .int _ _) rfl) ?_
                        refine st_val (ro_move (v := .slice _ _ _) rfl) ?_
                        refine st_val (ro_move (v := .int _ _) rfl) ?_
                        refine st_val (ro_move (v := .slice _ _ _) rfl) ?_
                        refine st_val (ro_move (v := .int _ _) rfl) ?_
                        refine st_val (ro_move (v := .int _ _) rfl) ?_
                        refine st_val (ro_loadA (cs := [_, _, _]) SesDone_g31 SesDone_z31 rfl (by exact (hk8.from_ ((From.rfl_.next E24).next E33)).whole)) ?_
                        refine st_call SesDone_k21 (copyReply0 e n H hc0 _) ?_
                        rintro v42 w17 ⟨rfl, E42⟩
                        replace ho40 := ho40.kept_from E42
                        refine st_val (ro_move (v := .int _ _) rfl) ?_
                        refine st_val (ro_indexAddrN (i := i) SesDone_e22 rfl rfl hi) ?_
                        refine st_val (ro_fieldAddr SesDone_f60_1 rfl) ?_
                        refine st_putOwnC (size := 6) (o := i * 6 + 1) (v := .int .i64 sq) SesDone_z3 (by show Value.pointer (some ⟨g40, 0 + i * 6 + 1, none⟩) = _; rw [Nat.zero_add]) rfl rfl ho40 (by omega) ?_
                        intro w18 O1 P1
                        rw [set_flat ses_len _ i 1 (by rw [List.length_map]; exact hi) (by decide) { norm L[i] with s := sq } _ (by rw [List.getElem_map]; rfl)] at P1
                        refine st_val (ro_indexAddrN (i := i) SesDone_e22 rfl rfl hi) ?_
                        refine st_val (ro_fieldAddr SesDone_f60_2 rfl) ?_
                        refine st_putOwnK (size := 6) (o := i * 6 + 2) (vs := [.int .i64 e, .int .i64 n, .slice none 0 0]) SesDone_z31 (by show Value.pointer (some ⟨g40, 0 + i * 6 + 2, none⟩) = _; rw [Nat.zero_add]) rfl (by simp [Value.oneCell']) P1 (by omega) (by show i * 6 + 2 + 3 ≤ L.length * 6; omega) ?_
                        intro w19 O2 P2
                        rw [mid_over (by rw [List.length_set, List.length_map]; exact hi) (x := ⟨cl, sq, e, n, none, 0, 0, (norm L[i]).u⟩) (by rw [List.getElem_set_self]; subst he; rfl), List.set_set] at P2
                        refine st_val (ro_indexAddrN (i := i) SesDone_e22 rfl rfl hi) ?_
                        refine st_val (ro_fieldAddr SesDone_f60_3 rfl) ?_
                        refine st_putOwnC (size := 6) (o := i * 6 + 5) (v := .int .i64 idx) SesDone_z3 (by show Value.pointer (some ⟨g40, 0 + i * 6 + 5, none⟩) = _; rw [Nat.zero_add]) rfl rfl P2 (by omega) ?_
                        intro w20 O3 P3
                        rw [set_flat ses_len _ i 5 (by rw [List.length_set, List.length_map]; exact hi) (by decide) ⟨cl, sq, e, n, none, 0, 0, idx⟩ _ (by rw [List.getElem_set_self]; rfl), List.set_set] at P3
                        refine st_nil ?_
                        refine nx_then ?_
                        refine cd_seq ?_
                        refine cd_region ?_
                        refine st_val (ro_move (v := .slice _ _ _) rfl) ?_
                        refine st_val (ro_assign (v := .slice _ _ _) rfl) ?_
                        refine st_val (ro_assign (v := .int _ _) rfl) ?_
                        refine st_nil ?_
                        refine nx_then ?_
                        refine cd_ret ?_
                        refine res2 (v := .slice _ _ _) (v' := .int _ _) rfl rfl rfl ?_
                        first
                          | (exfalso; omega)
                          | exact ⟨⟨_, _, _, c40, by rw [List.length_set, List.length_map], .inr (.inr ⟨i, hi, hD, he, rfl, rfl⟩), (rowS_own P3).2⟩, (((((((From.rfl_.next E8).next E24).next E33).next E42).only O1 (Nat.le_trans hB40.size (own_at ho40 _ rfl).1)).only O2 (Nat.le_trans hB40.size (own_at ho40 _ rfl).1)).only O3 (Nat.le_trans hB40.size (own_at ho40 _ rfl).1))⟩
theorem norm_one (L : List Ses) (k : Nat) : (L.map norm).take k ++ L.drop (k + 1) = (L.map norm).take k ++ L.drop (k + 1) := rfl
def RowQ (w : World) (A : Option Addr) (K : List Ses) (L : List Ses) : Prop := RowS w A K ∧ K.map norm = L
theorem close_len {L : List Ses} {i : Nat} (hi : i < L.length) : ((L.map norm).take i ++ (L.map norm).drop (i + 1)).length = L.length - 1 := by
  rw [List.length_append, List.length_take, List.length_drop, List.length_map]; omega
set_option maxRecDepth 100000 in
set_option maxHeartbeats 400000 in
theorem close_p (A : Option Addr) (c : Nat) (L : List Ses) (w : World) (hr : RowS w A L) (hl : L.length ≤ 1000) (hn0 : A = none → c = 0) (hv : ValidL L) (cl : Int) :
    Rt Try.prog 23 [.slice A L.length c, .int .i64 cl] w (fun v w' => GotP w (CloseGot L cl) v w') := by
  have hv8 := hv.1
  refine enter (n := 25) Try.func23 rfl rfl rfl ?_
  refine cd_seq ?_
  refine cd_region ?_
  refine st_val (ro_assign (v := .slice _ _ _) rfl) ?_
  refine st_val (ro_assign (v := .int _ _) rfl) ?_
  refine st_nil ?_
  refine nx_then ?_
  refine cd_seq ?_
  refine cd_seq ?_
  refine cd_region ?_
  refine st_val (ro_move (v := .slice _ _ _) rfl) ?_
  refine st_call SesDone_k13 (check_ok A c L _ (hr.from_ From.rfl_) (by omega) hv) ?_
  rintro v9 w1 ⟨rfl, E9⟩
  refine st_val (ro_bf (ro_neq rfl rfl) rfl) ?_
  refine st_nil ?_
  refine nx_then ?_
  refine cd_condF rfl ?_
  refine cd_skip ?_
  refine nx_then ?_
  refine cd_seq ?_
  refine cd_region ?_
  refine st_val (ro_move (v := .slice _ _ _) rfl) ?_
  refine st_val (ro_move (v := .int _ _) rfl) ?_
  refine st_call SesDone_k38 (find_rt A c L _ (hr.from_ (From.rfl_.next E9)) (by omega) cl (valid_rise hv)) ?_
  rintro v14 w2 ⟨hg14, E14⟩
  rcases hg14 with ⟨i, hi, he, rfl⟩ | ⟨i, hi, h1, h2, rfl⟩
  · refine st_val (ro_move (v := .tuple _) rfl) ?_
    refine st_val (ro_extract rfl rfl) ?_
    refine st_val (ro_extract rfl rfl) ?_
    refine st_val (ro_assign (v := .int _ _) rfl) ?_
    refine st_val (ro_assign (v := .bool _) rfl) ?_
    refine st_nil ?_
    refine nx_then ?_
    refine cd_seq ?_
    refine cd_seq ?_
    refine cd_region ?_
    refine st_val (ro_move (v := .bool _) rfl) ?_
    refine st_val (ro_not rfl) ?_
    refine st_nil ?_
    refine nx_then ?_
    refine cd_cond rfl (fun Q3 => ?_) (fun Q3 => ?_)
    · (try first | replace Q3 := bn_t Q3 | replace Q3 := bn_f Q3)
      (try first | replace Q3 := bx_t Q3 | replace Q3 := bx_f Q3 | replace Q3 := be_t Q3 | replace Q3 := be_f Q3 | replace Q3 := of_decide_eq_true Q3 | replace Q3 := of_decide_eq_false Q3)
      first
       | (exfalso; first | omega | contradiction | (cases Q3; done))
       | skip
         refine cd_seq ?_
         refine cd_region ?_
         refine st_val (ro_assign (v := .slice _ _ _) rfl) ?_
         refine st_val (ro_assign (v := .int _ _) rfl) ?_
         refine st_nil ?_
         refine nx_then ?_
         refine cd_ret ?_
         refine rt_then ?_
         refine res2 (v := .slice _ _ _) (v' := .int _ _) rfl rfl rfl ?_
         exact gotP_nil _ _ _ _ (.inl ⟨not_in h1 h2, rfl, rfl⟩) ((From.rfl_.next E9).next E14)
    · (try first | replace Q3 := bn_t Q3 | replace Q3 := bn_f Q3)
      (try first | replace Q3 := bx_t Q3 | replace Q3 := bx_f Q3 | replace Q3 := be_t Q3 | replace Q3 := be_f Q3 | replace Q3 := of_decide_eq_true Q3 | replace Q3 := of_decide_eq_false Q3)
      first
       | (exfalso; first | omega | contradiction | (cases Q3; done))
       | skip
         refine cd_skip ?_
         refine nx_then ?_
         refine cd_seq ?_
         refine cd_region ?_
         refine st_val (ro_move (v := .slice _ _ _) rfl) ?_
         have hB20 : From w w2 := ((From.rfl_.next E9).next E14)
         refine st_call SesDone_k42 (cloneS_rt A c L _ (hr.from_ ((From.rfl_.next E9).next E14)) hl hn0) ?_
         rintro v20 w4 ⟨⟨A20, c20, rfl, ho20⟩, E20⟩
         refine st_val (ro_move (v := .int _ _) rfl) ?_
         refine st_val (ro_move (v := .int _ _) rfl) ?_
         refine st_val (ro_addN (b := 1) rfl rfl (by omega)) ?_
         refine st_call SesDone_k45 (delete_rt _ A20 c20 L.length i (i + 1) ((L.map norm).flatMap sesV) _ ho20 (by omega) (by omega) (ses_one _) (by omega)) ?_
         rintro v24 w5 ⟨⟨A24, c24, rfl, ho24⟩, hg24⟩
         refine st_val (ro_assign (v := .slice _ _ _) rfl) ?_
         refine st_val (ro_assign (v := .int _ _) rfl) ?_
         refine st_nil ?_
         refine nx_then ?_
         refine cd_ret ?_
         refine res2 (v := .slice _ _ _) (v' := .int _ _) rfl rfl rfl ?_
         have hn : L.length - (i + 1 - i) = L.length - 1 := by omega
         rw [hn, flat_take ses_len, flat_drop ses_len, ← List.flatMap_append] at ho24
         exact ⟨⟨_, _, A24, c24, by rw [close_len hi, hn], .inr ⟨i, hi, he, rfl, rfl⟩, _, hB20.size, by rw [close_len hi]; exact ho24⟩, (((((From.rfl_.next E9).next E14).next E20)).grew hg24 (fun k hk => Nat.le_trans hB20.size (own_at ho20 k hk).1))⟩
  · refine st_val (ro_move (v := .tuple _) rfl) ?_
    refine st_val (ro_extract rfl rfl) ?_
    refine st_val (ro_extract rfl rfl) ?_
    refine st_val (ro_assign (v := .int _ _) rfl) ?_
    refine st_val (ro_assign (v := .bool _) rfl) ?_
    refine st_nil ?_
    refine nx_then ?_
    refine cd_seq ?_
    refine cd_seq ?_
    refine cd_region ?_
    refine st_val (ro_move (v := .bool _) rfl) ?_
    refine st_val (ro_not rfl) ?_
    refine st_nil ?_
    refine nx_then ?_
    refine cd_cond rfl (fun Q6 => ?_) (fun Q6 => ?_)
    · (try first | replace Q6 := bn_t Q6 | replace Q6 := bn_f Q6)
      (try first | replace Q6 := bx_t Q6 | replace Q6 := bx_f Q6 | replace Q6 := be_t Q6 | replace Q6 := be_f Q6 | replace Q6 := of_decide_eq_true Q6 | replace Q6 := of_decide_eq_false Q6)
      first
       | (exfalso; first | omega | contradiction | (cases Q6; done))
       | skip
         refine cd_seq ?_
         refine cd_region ?_
         refine st_val (ro_assign (v := .slice _ _ _) rfl) ?_
         refine st_val (ro_assign (v := .int _ _) rfl) ?_
         refine st_nil ?_
         refine nx_then ?_
         refine cd_ret ?_
         refine rt_then ?_
         refine res2 (v := .slice _ _ _) (v' := .int _ _) rfl rfl rfl ?_
         exact gotP_nil _ _ _ _ (.inl ⟨not_in h1 h2, rfl, rfl⟩) ((From.rfl_.next E9).next E14)
    · (try first | replace Q6 := bn_t Q6 | replace Q6 := bn_f Q6)
      (try first | replace Q6 := bx_t Q6 | replace Q6 := bx_f Q6 | replace Q6 := be_t Q6 | replace Q6 := be_f Q6 | replace Q6 := of_decide_eq_true Q6 | replace Q6 := of_decide_eq_false Q6)
      first
       | (exfalso; first | omega | contradiction | (cases Q6; done))
       | skip
         refine cd_skip ?_
         refine nx_then ?_
         refine cd_seq ?_
         refine cd_region ?_
         refine st_val (ro_move (v := .slice _ _ _) rfl) ?_
         have hB20 : From w w2 := ((From.rfl_.next E9).next E14)
         refine st_call SesDone_k42 (cloneS_rt A c L _ (hr.from_ ((From.rfl_.next E9).next E14)) hl hn0) ?_
         rintro v20 w7 ⟨⟨A20, c20, rfl, ho20⟩, E20⟩
         refine st_val (ro_move (v := .int _ _) rfl) ?_
         refine st_val (ro_move (v := .int _ _) rfl) ?_
         refine st_val (ro_addN (b := 1) rfl rfl (by omega)) ?_
         refine st_call SesDone_k45 (delete_rt _ A20 c20 L.length i (i + 1) ((L.map norm).flatMap sesV) _ ho20 (by omega) (by omega) (ses_one _) (by omega)) ?_
         rintro v24 w8 ⟨⟨A24, c24, rfl, ho24⟩, hg24⟩
         refine st_val (ro_assign (v := .slice _ _ _) rfl) ?_
         refine st_val (ro_assign (v := .int _ _) rfl) ?_
         refine st_nil ?_
         refine nx_then ?_
         refine cd_ret ?_
         refine res2 (v := .slice _ _ _) (v' := .int _ _) rfl rfl rfl ?_
         have hn : L.length - (i + 1 - i) = L.length - 1 := by omega
         rw [hn, flat_take ses_len, flat_drop ses_len, ← List.flatMap_append] at ho24
         exact ⟨⟨_, _, A24, c24, by rw [close_len hi, hn], .inr ⟨i, hi, he, rfl, rfl⟩, _, hB20.size, by rw [close_len hi]; exact ho24⟩, (((((From.rfl_.next E9).next E14).next E20)).grew hg24 (fun k hk => Nat.le_trans hB20.size (own_at ho20 k hk).1))⟩
theorem close_rt (A : Option Addr) (c : Nat) (L : List Ses) (w : World) (hr : RowS w A L) (hl : L.length ≤ 1000) (hn0 : A = none → c = 0) (hv : ValidL L) (cl : Int) : Rt Try.prog 23 [.slice A L.length c, .int .i64 cl] w fun v w' => GotN w (CloseGot L cl) v w' := (close_p A c L w hr hl hn0 hv cl).mono fun _ _ h => gotN_of h
set_option maxRecDepth 100000 in
set_option maxHeartbeats 400000 in
theorem refClose_rt (A : Option Addr) (c : Nat) (L : List Ses) (w : World) (hr : RowS w A L) (hl : L.length ≤ 1000) (hn0 : A = none → c = 0) (hc : L.length ≤ c) (hc9 : c ≤ 9223372036854775807) (h0 : ∀ i (h : i < L.length), L[i].hl = 0) (cl : Int) :
    Rt Try.prog 22 [.slice A L.length c, .int .i64 cl] w (fun v w' => (∃ (K : List Ses) (err : Int) (A' : Option Addr) (c' : Nat), v = .tuple #[.slice A' K.length c', .int .i64 err] ∧ CloseGot L cl (K.map norm) err ∧ (∀ i (h : i < K.length), K[i].hl = 0) ∧ RowS w' A' K) ∧ From w w') := by
  refine enter (n := 15) Try.func22 rfl rfl rfl ?_
  refine cd_seq ?_
  refine cd_region ?_
  refine st_val (ro_assign (v := .slice _ _ _) rfl) ?_
  refine st_val (ro_assign (v := .int _ _) rfl) ?_
  refine st_nil ?_
  refine nx_then ?_
  refine cd_seq ?_
  refine cd_region ?_
  refine st_val (ro_move (v := .slice _ _ _) rfl) ?_
  refine st_val (ro_move (v := .int _ _) rfl) ?_
  refine st_call SesDone_k36 (refFind_rt A c L _ (hr.from_ From.rfl_) (by omega) cl) ?_
  rintro v9 w1 ⟨hg9, rfl⟩
  rcases hg9 with ⟨i, hi, he, rfl⟩ | ⟨hno, rfl⟩
  · refine st_val (ro_assign (v := .int _ _) rfl) ?_
    refine st_nil ?_
    refine nx_then ?_
    refine cd_seq ?_
    refine cd_seq ?_
    refine cd_region ?_
    refine st_val (ro_move (v := .int _ _) rfl) ?_
    refine st_val (ro_lss rfl rfl) ?_
    refine st_nil ?_
    refine nx_then ?_
    refine cd_cond rfl (fun Q2 => ?_) (fun Q2 => ?_)
    · (try first | replace Q2 := bn_t Q2 | replace Q2 := bn_f Q2)
      (try first | replace Q2 := bx_t Q2 | replace Q2 := bx_f Q2 | replace Q2 := be_t Q2 | replace Q2 := be_f Q2 | replace Q2 := of_decide_eq_true Q2 | replace Q2 := of_decide_eq_false Q2)
      first
       | (exfalso; first | omega | contradiction | (cases Q2; done))
       | skip
         refine cd_seq ?_
         refine cd_region ?_
         refine st_val (ro_assign (v := .slice _ _ _) rfl) ?_
         refine st_val (ro_assign (v := .int _ _) rfl) ?_
         refine st_nil ?_
         refine nx_then ?_
         refine cd_ret ?_
         refine rt_then ?_
         refine res2 (v := .slice _ _ _) (v' := .int _ _) rfl rfl rfl ?_
         first
           | (exfalso; omega)
           | exact ⟨⟨[], 9, none, 0, rfl, .inl ⟨hno, rfl, rfl⟩, fun i h => absurd h (by simp), rows_nil _ _⟩, From.rfl_⟩
    · (try first | replace Q2 := bn_t Q2 | replace Q2 := bn_f Q2)
      (try first | replace Q2 := bx_t Q2 | replace Q2 := bx_f Q2 | replace Q2 := be_t Q2 | replace Q2 := be_f Q2 | replace Q2 := of_decide_eq_true Q2 | replace Q2 := of_decide_eq_false Q2)
      first
       | (exfalso; first | omega | contradiction | (cases Q2; done))
       | skip
         refine cd_skip ?_
         refine nx_then ?_
         refine cd_seq ?_
         refine cd_region ?_
         refine st_val (ro_move (v := .slice _ _ _) rfl) ?_
         refine st_val (ro_move (v := .int _ _) rfl) ?_
         refine st_call SesDone_k44 (drop_rt A c L _ (hr.from_ From.rfl_) hl hc hc9 i hi h0) ?_
         rintro v14 w3 ⟨⟨A14, c14, rfl, ho14⟩, E14⟩
         refine st_val (ro_assign (v := .slice _ _ _) rfl) ?_
         refine st_val (ro_assign (v := .int _ _) rfl) ?_
         refine st_nil ?_
         refine nx_then ?_
         refine cd_ret ?_
         refine res2 (v := .slice _ _ _) (v' := .int _ _) rfl rfl rfl ?_
         first
           | (exfalso; omega)
           | exact ⟨⟨_, _, A14, c14, by rw [drop_len hi], .inr ⟨i, hi, he, drop_norm i, rfl⟩, drop_hl h0, (rowS_own ho14).2⟩, (From.rfl_.next E14)⟩
  · refine st_val (ro_assign (v := .int _ _) rfl) ?_
    refine st_nil ?_
    refine nx_then ?_
    refine cd_seq ?_
    refine cd_seq ?_
    refine cd_region ?_
    refine st_val (ro_move (v := .int _ _) rfl) ?_
    refine st_val (ro_lss rfl rfl) ?_
    refine st_nil ?_
    refine nx_then ?_
    refine cd_cond rfl (fun Q4 => ?_) (fun Q4 => ?_)
    · (try first | replace Q4 := bn_t Q4 | replace Q4 := bn_f Q4)
      (try first | replace Q4 := bx_t Q4 | replace Q4 := bx_f Q4 | replace Q4 := be_t Q4 | replace Q4 := be_f Q4 | replace Q4 := of_decide_eq_true Q4 | replace Q4 := of_decide_eq_false Q4)
      first
       | (exfalso; first | omega | contradiction | (cases Q4; done))
       | skip
         refine cd_seq ?_
         refine cd_region ?_
         refine st_val (ro_assign (v := .slice _ _ _) rfl) ?_
         refine st_val (ro_assign (v := .int _ _) rfl) ?_
         refine st_nil ?_
         refine nx_then ?_
         refine cd_ret ?_
         refine rt_then ?_
         refine res2 (v := .slice _ _ _) (v' := .int _ _) rfl rfl rfl ?_
         first
           | (exfalso; omega)
           | exact ⟨⟨[], 9, none, 0, rfl, .inl ⟨hno, rfl, rfl⟩, fun i h => absurd h (by simp), rows_nil _ _⟩, From.rfl_⟩
    · (try first | replace Q4 := bn_t Q4 | replace Q4 := bn_f Q4)
      (try first | replace Q4 := bx_t Q4 | replace Q4 := bx_f Q4 | replace Q4 := be_t Q4 | replace Q4 := be_f Q4 | replace Q4 := of_decide_eq_true Q4 | replace Q4 := of_decide_eq_false Q4)
      first
       | (exfalso; first | omega | contradiction | (cases Q4; done))
       | skip
         refine cd_skip ?_
         refine nx_then ?_
         refine cd_seq ?_
         refine cd_region ?_
         refine st_val (ro_move (v := .slice _ _ _) rfl) ?_
         refine st_val (ro_move (v := .int _ _) rfl) ?_
         refine st_call SesDone_k44 (drop_rt A c L _ (hr.from_ From.rfl_) hl hc hc9 i hi h0) ?_
         rintro v14 w5 ⟨⟨A14, c14, rfl, ho14⟩, E14⟩
         refine st_val (ro_assign (v := .slice _ _ _) rfl) ?_
         refine st_val (ro_assign (v := .int _ _) rfl) ?_
         refine st_nil ?_
         refine nx_then ?_
         refine cd_ret ?_
         refine res2 (v := .slice _ _ _) (v' := .int _ _) rfl rfl rfl ?_
         first
           | (exfalso; omega)
           | exact ⟨⟨_, _, A14, c14, by rw [drop_len hi], .inr ⟨i, hi, he, drop_norm i, rfl⟩, drop_hl h0, (rowS_own ho14).2⟩, (From.rfl_.next E14)⟩
set_option maxRecDepth 100000 in
set_option maxHeartbeats 400000 in
theorem eqSession_t (x y : Ses) (w : World) (hx : x.hl = 0) (hy : y.hl = 0) (he : norm x = norm y) :
    Rt Try.prog 40 [.agg #[.int .i64 x.c, .int .i64 x.s, .int .i64 x.e, .int .i64 x.n, .slice x.H x.hl x.hc, .int .i64 x.u], .agg #[.int .i64 y.c, .int .i64 y.s, .int .i64 y.e, .int .i64 y.n, .slice y.H y.hl y.hc, .int .i64 y.u]] w (fun v w' => v = .bool true ∧ From w w') := by
  obtain ⟨c, s, e, n, H, hl, hc, u⟩ := x
  obtain ⟨c2, s2, e2, n2, H2, hl2, hc2, u2⟩ := y
  obtain rfl : hl = 0 := hx
  obtain rfl : hl2 = 0 := hy
  simp only [norm, Ses.mk.injEq, true_and, and_true] at he
  obtain ⟨rfl, rfl, rfl, rfl, rfl⟩ := he
  refine enter (n := 31) Try.func40 rfl rfl rfl ?_
  refine cd_seq ?_
  refine cd_region ?_
  refine st_box (v := .agg _) rfl ?_
  intro b2 w1 E2 hb2 hk2
  refine st_box (v := .agg _) rfl ?_
  intro b3 w2 E3 hb3 hk3
  replace hk2 := hk2.from_ (From.rfl_.next E3)
  refine st_val (ro_assign (v := .bool _) rfl) ?_
  refine st_nil ?_
  refine nx_then ?_
  refine cd_seq ?_
  refine cd_region ?_
  refine st_val (ro_fieldAddr SesDone_f60_0 rfl) ?_
  refine st_val (ro_load SesDone_g3 rfl (by exact hk2.rd 0 rfl)) ?_
  refine st_val (ro_fieldAddr SesDone_f60_0 rfl) ?_
  refine st_val (ro_load SesDone_g3 rfl (by exact hk3.rd 0 rfl)) ?_
  refine st_val (ro_bt (ro_eql rfl rfl) (beq_self_eq_true _)) ?_
  refine st_val (ro_move (v := .bool _) rfl) ?_
  refine st_unguard rfl ?_
  refine st_val (ro_fieldAddr SesDone_f60_1 rfl) ?_
  refine st_unguard rfl ?_
  refine st_val (ro_load SesDone_g3 rfl (by exact hk2.rd 1 rfl)) ?_
  refine st_unguard rfl ?_
  refine st_val (ro_fieldAddr SesDone_f60_1 rfl) ?_
  refine st_unguard rfl ?_
  refine st_val (ro_load SesDone_g3 rfl (by exact hk3.rd 1 rfl)) ?_
  refine st_unguard rfl ?_
  refine st_val (ro_bt (ro_eql rfl rfl) (beq_self_eq_true _)) ?_
  refine st_val (ro_pickT (v := .bool _) rfl rfl) ?_
  refine st_val (ro_move (v := .bool _) rfl) ?_
  refine st_unguard rfl ?_
  refine st_val (ro_fieldAddr SesDone_f60_2 rfl) ?_
  refine st_unguard rfl ?_
  refine st_val (ro_loadA (cs := [_, _, _]) SesDone_g31 SesDone_z31 rfl (by exact rep_of hk2)) ?_
  refine st_unguard rfl ?_
  refine st_val (ro_fieldAddr SesDone_f60_2 rfl) ?_
  refine st_unguard rfl ?_
  refine st_val (ro_loadA (cs := [_, _, _]) SesDone_g31 SesDone_z31 rfl (by exact rep_of hk3)) ?_
  refine st_unguard rfl ?_
  refine st_call SesDone_k17 (eqReply0 e n H H2 hc hc2 _) ?_
  rintro v22 w3 ⟨rfl, E22⟩
  refine st_val (ro_pickT (v := .bool _) rfl rfl) ?_
  refine st_val (ro_move (v := .bool _) rfl) ?_
  refine st_unguard rfl ?_
  refine st_val (ro_fieldAddr SesDone_f60_3 rfl) ?_
  refine st_unguard rfl ?_
  refine st_val (ro_load SesDone_g3 rfl (by exact (hk2.from_ E22).rd 5 rfl)) ?_
  refine st_unguard rfl ?_
  refine st_val (ro_fieldAddr SesDone_f60_3 rfl) ?_
  refine st_unguard rfl ?_
  refine st_val (ro_load SesDone_g3 rfl (by exact (hk3.from_ E22).rd 5 rfl)) ?_
  refine st_unguard rfl ?_
  refine st_val (ro_bt (ro_eql rfl rfl) (beq_self_eq_true _)) ?_
  refine st_val (ro_pickT (v := .bool _) rfl rfl) ?_
  refine st_val (ro_assign (v := .bool _) rfl) ?_
  refine st_nil ?_
  refine nx_then ?_
  refine cd_ret ?_
  refine res1 (v := .bool _) rfl rfl ?_
  exact ⟨rfl, (((From.rfl_.next E2).next E3).next E22)⟩
set_option maxRecDepth 100000 in
set_option maxHeartbeats 400000 in
theorem eqSessions_t (A B : Option Addr) (c c2 : Nat) (K L : List Ses) (w : World) (hr : RowS w A K) (hr2 : RowS w B L) (hl : K.length ≤ 1000) (hk0 : ∀ i (h : i < K.length), K[i].hl = 0) (hl0 : ∀ i (h : i < L.length), L[i].hl = 0) (he : K.map norm = L.map norm) :
    Rt Try.prog 18 [.slice A K.length c, .slice B L.length c2] w (fun v w' => v = .bool true ∧ From w w') := by
  have hln : K.length = L.length := by have := congrArg List.length he; simpa using this
  refine enter (n := 27) Try.func18 rfl rfl rfl ?_
  refine cd_seq ?_
  refine cd_region ?_
  refine st_val (ro_assign (v := .bool _) rfl) ?_
  refine st_nil ?_
  refine nx_then ?_
  refine cd_seq ?_
  refine cd_seq ?_
  refine cd_region ?_
  refine st_val (ro_move (v := .slice _ _ _) rfl) ?_
  refine st_val (ro_len SesDone_l22 rfl) ?_
  refine st_val (ro_move (v := .slice _ _ _) rfl) ?_
  refine st_val (ro_len SesDone_l22 rfl) ?_
  refine st_val (ro_bf (ro_neq rfl rfl) (by rw [hln]; exact bne_self_eq_false _)) ?_
  refine st_nil ?_
  refine nx_then ?_
  refine cd_condF rfl ?_
  refine cd_skip ?_
  refine nx_then ?_
  refine cd_seq ?_
  refine cd_seq ?_
  refine cd_region ?_
  refine st_val (ro_assign (v := .int _ _) rfl) ?_
  refine st_nil ?_
  refine nx_then ?_
  refine cd_block ?_
  refine cd_loop (G := Nat) [4, 11, 12, 13, 14, 15, 16, 17, 18, 19, 20, 21, 22, 23, 24, 25, 26] (fun k => [(5, .int .i64 (k : Nat))]) (fun k w' => k ≤ K.length ∧ From w w') (fun k => K.length - k) (0) ⟨rfl, trivial⟩ ?_ ?_
  · exact ⟨Nat.zero_le _, From.rfl_⟩
  rintro k ρ1 w1 ⟨hk, hB⟩
  refine cd_seq ?_
  refine cd_seq ?_
  refine cd_region ?_
  refine st_val (ro_move (v := .int _ _) rfl) ?_
  refine st_val (ro_move (v := .slice _ _ _) rfl) ?_
  refine st_val (ro_len SesDone_l22 rfl) ?_
  refine st_val (ro_lss rfl rfl) ?_
  refine st_nil ?_
  refine nx_then ?_
  refine cd_cond rfl (fun Q2 => ?_) (fun Q2 => ?_)
  · (try first | replace Q2 := bn_t Q2 | replace Q2 := bn_f Q2)
    (try first | replace Q2 := bx_t Q2 | replace Q2 := bx_f Q2 | replace Q2 := be_t Q2 | replace Q2 := be_f Q2 | replace Q2 := of_decide_eq_true Q2 | replace Q2 := of_decide_eq_false Q2)
    obtain ⟨ba, oa, rfl, hca⟩ := hr (by omega)
    obtain ⟨bb, ob, rfl, hcb⟩ := hr2 (by omega)
    have hkK : k < K.length := by omega
    have hkL : k < L.length := by omega
    have hnk : norm K[k] = norm L[k] := norm_at he k hkK hkL
    first
     | (exfalso; first | omega | contradiction | (cases Q2; done))
     | skip
       refine cd_skip ?_
       refine nx_then ?_
       refine cd_seq ?_
       refine cd_block ?_
       refine cd_seq ?_
       apply cd_drawnD 10 [(17, eqp _), (18, eqp _), (19, eqp _), (20, eqp (.agg (sesV (K[k]'hkK)).toArray)), (21, eqp _), (22, eqp _), (23, eqp _), (24, eqp (.agg (sesV (L[k]'hkL)).toArray)), (25, eqp _), (26, eqp _)] (by repeat first | exact pq_body | refine pq_then ?_ | refine pq_block ?_) (by kernel_rfl) (by kernel_rfl) ⟨eqp_mono _, eqp_mono _, eqp_mono _, eqp_mono _, eqp_mono _, eqp_mono _, eqp_mono _, eqp_mono _, eqp_mono _, eqp_mono _, trivial⟩
       case hop =>
        refine ⟨?_, ?_⟩
        · rintro - w4 D4
          show OpOK _ _ _ _ _ _ _
          exact ok_pure (ro_move (v := .slice _ _ _) rfl) rfl
        refine ⟨?_, ?_⟩
        · rintro - w5 D5
          show OpOK _ _ _ _ _ _ _
          exact ok_pure (ro_move (v := .int _ _) rfl) rfl
        refine ⟨?_, ?_⟩
        · rintro - w6 D6
          rintro _ rfl _ rfl
          show OpOK _ _ _ _ _ _ _
          exact ok_pure (ro_indexAddrN SesDone_e22 rfl rfl (by omega)) rfl
        refine ⟨?_, ?_⟩
        · rintro - w7 D7
          rintro _ rfl
          show OpOK _ _ _ _ _ _ _
          exact ok_pure (ro_loadA (cs := sesV (K[k]'hkK)) SesDone_g60 SesDone_z60 rfl (rangeF (hB.next D7) (hca k hkK))) rfl
        refine ⟨?_, ?_⟩
        · rintro - w8 D8
          show OpOK _ _ _ _ _ _ _
          exact ok_pure (ro_move (v := .slice _ _ _) rfl) rfl
        refine ⟨?_, ?_⟩
        · rintro - w9 D9
          show OpOK _ _ _ _ _ _ _
          exact ok_pure (ro_move (v := .int _ _) rfl) rfl
        refine ⟨?_, ?_⟩
        · rintro - w10 D10
          rintro _ rfl _ rfl
          show OpOK _ _ _ _ _ _ _
          exact ok_pure (ro_indexAddrN SesDone_e22 rfl rfl (by omega)) rfl
        refine ⟨?_, ?_⟩
        · rintro - w11 D11
          rintro _ rfl
          show OpOK _ _ _ _ _ _ _
          exact ok_pure (ro_loadA (cs := sesV (L[k]'hkL)) SesDone_g60 SesDone_z60 rfl (rangeF (hB.next D11) (hcb k hkL))) rfl
        refine ⟨?_, ?_⟩
        · rintro - w12 D12
          rintro v12_20 rfl v12_24 rfl
          show OpOK _ _ _ _ _ _ _
          refine ok_call SesDone_k40 ((eqSession_t (K[k]'hkK) (L[k]'hkL) _ (hk0 k hkK) (hl0 k hkL) hnk).mono ?_)
          rintro v _ ⟨rfl, E12'⟩; exact ⟨E12', rfl⟩
        refine ⟨?_, ?_⟩
        · rintro - w13 D13
          rintro _ rfl
          show OpOK _ _ _ _ _ _ _
          exact ok_pure (ro_not rfl) rfl
        exact trivial
       case hend =>
        intro w14 D14
        rintro _ rfl _ rfl _ rfl v20 rfl _ rfl _ rfl _ rfl v24 rfl _ rfl _ rfl
        show St _ _ _ _ _ _ _
        refine st_nil ?_
        refine nx_then ?_
        refine cd_cond rfl (fun Q15 => ?_) (fun Q15 => ?_)
        · (try first | replace Q15 := bn_t Q15 | replace Q15 := bn_f Q15)
          (try first | replace Q15 := bx_t Q15 | replace Q15 := bx_f Q15 | replace Q15 := be_t Q15 | replace Q15 := be_f Q15 | replace Q15 := of_decide_eq_true Q15 | replace Q15 := of_decide_eq_false Q15)
          first
           | (exfalso; first | omega | contradiction | (cases Q15; done))
           | skip
             refine cd_seq ?_
             refine cd_region ?_
             refine st_val (ro_assign (v := .bool _) rfl) ?_
             refine st_nil ?_
             refine nx_then ?_
             refine cd_ret ?_
             refine rt_block ?_
             refine rt_then ?_
             refine rt_then ?_
             refine rt_block ?_
             refine rt_then ?_
             refine res1 (v := .bool _) rfl rfl ?_
             exact absurd rfl (by simp_all)
        · (try first | replace Q15 := bn_t Q15 | replace Q15 := bn_f Q15)
          (try first | replace Q15 := bx_t Q15 | replace Q15 := bx_f Q15 | replace Q15 := be_t Q15 | replace Q15 := be_f Q15 | replace Q15 := of_decide_eq_true Q15 | replace Q15 := of_decide_eq_false Q15)
          first
           | (exfalso; first | omega | contradiction | (cases Q15; done))
           | skip
             refine cd_skip ?_
             refine nx_block ?_
             refine nx_then ?_
             refine cd_region ?_
             refine st_val (ro_move (v := .int _ _) rfl) ?_
             refine st_val (ro_addN (b := 1) rfl rfl (by omega)) ?_
             refine st_val (ro_assign (v := .int _ _) rfl) ?_
             refine st_nil ?_
             refine nx_cut (k + 1) ⟨(by first | rfl | (refine int_eq ?_; omega)), trivial⟩ (by (iterate 35 refine agr_cons rfl ?_); exact agr_rfl) ⟨?_, ?_⟩
             · exact ⟨by omega, (hB.next D14)⟩
             · omega
  · (try first | replace Q2 := bn_t Q2 | replace Q2 := bn_f Q2)
    (try first | replace Q2 := bx_t Q2 | replace Q2 := bx_f Q2 | replace Q2 := be_t Q2 | replace Q2 := be_f Q2 | replace Q2 := of_decide_eq_true Q2 | replace Q2 := of_decide_eq_false Q2)
    first
     | (exfalso; first | omega | contradiction | (cases Q2; done))
     | skip
       refine cd_exit ?_
       refine ex_then ?_
       refine ex_then ?_
       refine ex_block ?_
       refine nx_then ?_
       refine cd_seq ?_
       refine cd_region ?_
       refine st_val (ro_assign (v := .bool _) rfl) ?_
       refine st_nil ?_
       refine nx_then ?_
       refine cd_ret ?_
       refine res1 (v := .bool _) rfl rfl ?_
       exact ⟨rfl, hB⟩
end Go.Proofs.Ytbikemhokgcboaa
