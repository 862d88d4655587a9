/- commands: their bytes, and back. -/
import Derived.Test.YthacjhdodjgojaaCmdSmall
namespace Go.Proofs.Ythacjhdodjgojaa
open Go.RowKit
open Go.ChangeShapes Go.WideShapes Go.ChangeAt
theorem CmdCode_g3 : aggQ Try.prog 3 = some false := by kernel_rfl
theorem CmdCode_z3 : sizeQ Try.prog 3 = some 1 := by kernel_rfl
theorem CmdCode_g40 : aggQ Try.prog 40 = some false := by kernel_rfl
theorem CmdCode_z40 : sizeQ Try.prog 40 = some 1 := by kernel_rfl
theorem CmdCode_g26 : aggQ Try.prog 26 = some true := by kernel_rfl
theorem CmdCode_z26 : sizeQ Try.prog 26 = some 5 := by kernel_rfl
theorem CmdCode_k13 : callable Try.prog 13 = true := by kernel_rfl
theorem CmdCode_f26_0 : fieldQ Try.prog 26 0 = some 0 := by kernel_rfl
theorem CmdCode_f26_1 : fieldQ Try.prog 26 1 = some 1 := by kernel_rfl
theorem CmdCode_f26_2 : fieldQ Try.prog 26 2 = some 2 := by kernel_rfl
theorem CmdCode_k14 : callable Try.prog 14 = true := by kernel_rfl
theorem CmdCode_q37 : litQ Try.prog 37 = some (9, 1, 16, (.string ⟨#[]⟩)) := by kernel_rfl
theorem CmdCode_f26_3 : fieldQ Try.prog 26 3 = some 3 := by kernel_rfl
theorem CmdCode_g9 : aggQ Try.prog 9 = some false := by kernel_rfl
theorem CmdCode_f26_4 : fieldQ Try.prog 26 4 = some 4 := by kernel_rfl
theorem CmdCode_k15 : callable Try.prog 15 = true := by kernel_rfl
theorem CmdCode_o26 : zeroQ Try.prog 26 = some (.agg #[.int .i64 0, .int .i64 0, .int .i64 0, .string ⟨#[]⟩, .string ⟨#[]⟩]) := by kernel_rfl
theorem CmdCode_k11 : callable Try.prog 11 = true := by kernel_rfl
theorem CmdCode_b26_ : Try.prog.built 26 [] = some #[.int .i64 0, .int .i64 0, .int .i64 0, .string ⟨#[]⟩, .string ⟨#[]⟩] := by kernel_rfl
theorem CmdCode_l37 : (elemQ Try.prog 37).isSome = true := by kernel_rfl
theorem CmdCode_e37 : elemQ Try.prog 37 = some (9, 1) := by kernel_rfl
theorem CmdCode_b26_3_4 : ∀ (a0 : ByteArray) (a1 : ByteArray), Try.prog.built 26 [(3, .string a0), (4, .string a1)] = some #[.int .i64 0, .int .i64 0, .int .i64 0, .string a0, .string a1] := by intros; kernel_rfl
theorem CmdCode_k12 : callable Try.prog 12 = true := by kernel_rfl
section
variable {P : Program} {ρ : Operand → Value} {w : World}
theorem ro_indexArr {t e : TypeId} {x y : Operand} {m i : Nat} {k : IntKind} {cs : Array Value} {v : Value} (hu : P.underlying t = some (.array m e)) (hs : sizeQ P e = some 1) (ha : aggQ P e = some false) (hx : ρ x = .agg cs) (hy : ρ y = .int k (i : Nat)) (h : i < m) (hv : cs[i]? = some v) : RO P ρ (.index t x y) w v w := fun _ _ _ _ _ => by
  have h2 : (0 : Int) ≤ (i : Nat) ∧ ((i : Nat) : Int) < m := by omega
  simp [execOp, hx, hy, Instr.index, asIntOf, run_underlying hu, h2, h, sizeOf_of hs, part, isAgg_of ha, hv]
end
def sAt (ss : List ByteArray) (q : Nat) : ByteArray := ss.getD q ⟨#[]⟩
def numS (s : ByteArray) : Option Nat := match getNum (strB s) with
  | some (n, k) => if k = s.size then some n else none
  | none => none
def nvS (ss : List ByteArray) (q : Nat) : Nat := (numS (sAt ss q)).getD 0
def goodC (ss : List ByteArray) : Prop := ss.length = 5 ∧ (∀ q, q < 3 → (numS (sAt ss q)).isSome = true) ∧ OkC (nvS ss 0 : Nat) (nvS ss 1 : Nat) (nvS ss 2 : Nat) (sAt ss 3) (sAt ss 4)
def tsN (k c s : Nat) : List ByteArray := [strOf (nums k), strOf (nums c), strOf (nums s)]
def tsC (k c s : Nat) (i t : ByteArray) : List ByteArray := tsN k c s ++ [i, t]
theorem numS_nums {m : Nat} (h : m ≤ 9223372036854775807) : numS (strOf (nums m)) = some m := by
  unfold numS
  rw [strB_strOf (nums_byte9 h)]
  have := getNum_nums h []
  rw [List.append_nil] at this
  rw [this]
  simp [strOf_size]
theorem numS_back {s : ByteArray} {n : Nat} (h : numS s = some n) : s = strOf (nums n) ∧ n ≤ 9223372036854775807 := by
  unfold numS at h
  split at h
  · rename_i m k hg
    split at h
    · rename_i hk
      simp only [Option.some.injEq] at h
      subst h
      have h1 := getNum_back (strB_lt s) hg
      rw [List.take_of_length_le (by rw [strB_length]; omega)] at h1
      exact ⟨by rw [← h1, strOf_strB], (getNum_bound (strB_lt s) hg).1⟩
    · cases h
  · cases h
theorem five {α : Type} : ∀ {l : List α}, l.length = 5 → ∃ a b c d e, l = [a, b, c, d, e]
  | [a, b, c, d, e], _ => ⟨a, b, c, d, e, rfl⟩
  | [], h | [_], h | [_, _], h | [_, _, _], h | [_, _, _, _], h => by simp at h
  | _ :: _ :: _ :: _ :: _ :: _ :: _, h => by simp at h
theorem good_back {l : List Nat} {ss : List ByteArray} (hb : ∀ b ∈ l, b < 256) (h : getB l = some ss) (hg : goodC ss) : putB (tsC (nvS ss 0) (nvS ss 1) (nvS ss 2) (sAt ss 3) (sAt ss 4)) = l ∧ (∀ q, q < 3 → nvS ss q ≤ 9223372036854775807) := by
  obtain ⟨h5, hn, _⟩ := hg
  have hq : ∀ q, q < 3 → sAt ss q = strOf (nums (nvS ss q)) ∧ nvS ss q ≤ 9223372036854775807 := fun q hq => by
    obtain ⟨n, hs⟩ := Option.isSome_iff_exists.1 (hn q hq)
    have := numS_back hs
    unfold nvS
    rw [hs]
    exact this
  refine ⟨?_, fun q h => (hq q h).2⟩
  have e : tsC (nvS ss 0) (nvS ss 1) (nvS ss 2) (sAt ss 3) (sAt ss 4) = ss := by
    unfold tsC tsN
    rw [← (hq 0 (by omega)).1, ← (hq 1 (by omega)).1, ← (hq 2 (by omega)).1]
    obtain ⟨a, b, c, d, e, rfl⟩ := five h5
    rfl
  rw [e]
  exact (getB_back hb h).1
theorem good_of {k c s : Nat} {i t : ByteArray} (hk : k ≤ 9223372036854775807) (hc : c ≤ 9223372036854775807) (hs : s ≤ 9223372036854775807) (ho : OkC (k : Nat) (c : Nat) (s : Nat) i t) : goodC (tsC k c s i t) ∧ nvS (tsC k c s i t) 0 = k ∧ nvS (tsC k c s i t) 1 = c ∧ nvS (tsC k c s i t) 2 = s := by
  have e0 : numS (sAt (tsC k c s i t) 0) = some k := numS_nums hk
  have e1 : numS (sAt (tsC k c s i t) 1) = some c := numS_nums hc
  have e2 : numS (sAt (tsC k c s i t) 2) = some s := numS_nums hs
  have v0 : nvS (tsC k c s i t) 0 = k := by unfold nvS; rw [e0]; rfl
  have v1 : nvS (tsC k c s i t) 1 = c := by unfold nvS; rw [e1]; rfl
  have v2 : nvS (tsC k c s i t) 2 = s := by unfold nvS; rw [e2]; rfl
  refine ⟨⟨rfl, fun q hq => ?_, by rw [v0, v1, v2]; exact ho⟩, v0, v1, v2⟩
  match q, hq with
  | 0, _ => rw [e0]; rfl
  | 1, _ => rw [e1]; rfl
  | 2, _ => rw [e2]; rfl
theorem encL_mem : ∀ {ts : List ByteArray} {s : ByteArray}, s ∈ ts → s.size ≤ (encL ts).length
  | x :: r, s, h => by
    rw [encL, List.length_append, encS_length]
    rcases List.mem_cons.1 h with rfl | h
    · omega
    · have := encL_mem h; omega
theorem putB_mem {ts : List ByteArray} {s : ByteArray} (h : s ∈ ts) : s.size ≤ (putB ts).length := by
  rw [putB, List.length_append]
  have := encL_mem h
  omega
theorem sAt_le {l : List Nat} {ss : List ByteArray} (hb : ∀ b ∈ l, b < 256) (h : getB l = some ss) (q : Nat) : (sAt ss q).size ≤ 1048576 := by
  obtain ⟨h1, h2⟩ := getB_back hb h
  unfold sAt
  by_cases hq : q < ss.length
  · rw [List.getD_eq_getElem?_getD, List.getElem?_eq_getElem hq]
    have := putB_mem (List.getElem_mem hq)
    rw [h1] at this
    simp only [Option.getD_some]
    omega
  · rw [List.getD_eq_getElem?_getD, List.getElem?_eq_none (by omega)]
    exact Nat.zero_le _
theorem arr3 {k c s : Nat} (hk : k ≤ 9223372036854775807) (hc : c ≤ 9223372036854775807) (hs : s ≤ 9223372036854775807) (j : Nat) (h : j < 3) : ∃ m, m ≤ 9223372036854775807 ∧ (#[.int .i64 (k : Nat), .int .i64 (c : Nat), .int .i64 (s : Nat)] : Array Value)[j]? = some (.int .i64 (m : Nat)) ∧ (tsN k c s).take (j + 1) = (tsN k c s).take j ++ [strOf (nums m)] := by
  match j, h with
  | 0, _ => exact ⟨k, hk, rfl, rfl⟩
  | 1, _ => exact ⟨c, hc, rfl, rfl⟩
  | 2, _ => exact ⟨s, hs, rfl, rfl⟩
theorem num_w (m : Nat) (hm : m ≤ 9223372036854775807) (w : World) : Rt Try.prog 14 [.int .i64 (m : Nat)] w fun v w' => ∃ A c, v = .tuple #[.slice A (nums m).length c, .int .i64 0] ∧ RowC w' (.slice A (nums m).length c) (bytesV (nums m)) ∧ From w w' := by
  refine Calls.mono (num_any m hm w) fun e w' ⟨v', he, ho, hF⟩ => ?_
  have hr := RowC.of_own ho
  obtain ⟨A, c, hv, _, _⟩ := hr.2
  rw [bytesV_length] at hv
  subst hv
  exact ⟨_, he, A, c, rfl, hr, hF⟩
theorem put_w (A : Option Addr) (c n : Nat) (ts : List ByteArray) (w : World) (hn : n = ts.length) (hr : RowC w (.slice A n c) (ts.map .string)) (hs : ∀ s ∈ ts, s.size ≤ 140737488351232) (hfit : (putB ts).length ≤ 1048576) : Rt Try.prog 15 [.slice A n c] w fun v w' => ∃ A c, v = .tuple #[.slice A (putB ts).length c, .int .i64 0] ∧ RowC w' (.slice A (putB ts).length c) (bytesV (putB ts)) ∧ From w w' := by
  refine Calls.mono (put_any _ ts w hr hs hfit) fun e w' ⟨v', he, ho, hF⟩ => ?_
  have hr := RowC.of_own ho
  obtain ⟨A, c, hv, _, _⟩ := hr.2
  rw [bytesV_length] at hv
  subst hv
  exact ⟨_, he, A, c, rfl, hr, hF⟩
theorem getnum_w (A : Option Addr) (c n : Nat) (l : List Nat) (hl : ∀ b ∈ l, b < 256) (w : World) (hr : RowC w (.slice A n c) (bytesV l)) : Rt Try.prog 12 [.slice A n c] w fun v w' => v = gotV (getNum l) ∧ w = w' :=
  Calls.mono (getnum_any _ l hl w hr) fun e w' ⟨he, hw⟩ => ⟨_, he, rfl, hw⟩
def GotR (w w' : World) (v : Value) (l : List Nat) : Prop := (getB l = none ∧ v = .tuple #[.slice none 0 0, .int .i64 1]) ∨ ∃ ss A c, getB l = some ss ∧ v = .tuple #[.slice A ss.length c, .int .i64 0] ∧ w'.ownsRow w.heap.size 9 1 (.slice A ss.length c) ss.length (ss.map .string)
theorem get_w (A : Option Addr) (c n : Nat) (l : List Nat) (hl : ∀ b ∈ l, b < 256) (w : World) (hr : RowC w (.slice A n c) (bytesV l)) : Rt Try.prog 11 [.slice A n c] w fun v w' => GotR w w' v l ∧ From w w' := by
  refine Calls.mono (get_any _ l hl w hr) fun e w' ⟨hg, hF⟩ => ?_
  cases hb : getB l with
  | none => rw [hb] at hg; exact ⟨_, hg, .inl ⟨hb, rfl⟩, hF⟩
  | some ss =>
    rw [hb] at hg
    obtain ⟨v', he, ho⟩ := hg
    obtain ⟨A, c, hv, _, _⟩ := (RowC.of_own ho).2
    rw [List.length_map] at hv
    subst hv
    exact ⟨_, he, .inr ⟨ss, A, c, hb, rfl, ho⟩, hF⟩
theorem mcmd_ok (k c s : Int) (i t : ByteArray) (w : World) (hi : i.size ≤ 140737488351232) (ht : t.size ≤ 140737488351232) (ho : OkC k c s i t) : Rt Try.prog 13 [cmdV k c s i t] w fun v w' => v = .int .i64 0 ∧ From w w' :=
  (mcmd k c s i t w hi ht).mono fun v w' h => ⟨by rw [h.1, if_pos ho], h.2⟩
theorem okc_size {k c s : Int} {i t : ByteArray} (h : OkC k c s i t) : i.size ≤ 2048 ∧ t.size ≤ 2048 := by unfold OkC at h; omega
set_option maxRecDepth 100000 in
set_option maxHeartbeats 1000000 in
theorem bytes_ok (k c s : Nat) (i t : ByteArray) (w : World) (hk : k ≤ 9223372036854775807) (hc : c ≤ 9223372036854775807) (hs : s ≤ 9223372036854775807) (ho : OkC (k : Nat) (c : Nat) (s : Nat) i t) (hfit : (putB (tsC k c s i t)).length ≤ 1048576) :
    Rt Try.prog 8 [.agg #[.int .i64 (k : Nat), .int .i64 (c : Nat), .int .i64 (s : Nat), .string i, .string t]] w (fun v w' => (∃ A c', v = .tuple #[.slice A (putB (tsC k c s i t)).length c', .int .i64 0] ∧ RowC w' (.slice A (putB (tsC k c s i t)).length c') (bytesV (putB (tsC k c s i t)))) ∧ From w w') := by
  have hsz := okc_size ho
  refine enter (n := 51) Try.func8 rfl rfl rfl ?_
  refine cd_seq ?_
  refine cd_region ?_
  refine st_box (v := .agg _) rfl ?_
  intro b1 w1 E1 hb1 hk1
  refine st_val (ro_assign (v := .slice _ _ _) rfl) ?_
  refine st_val (ro_assign (v := .int _ _) rfl) ?_
  refine st_nil ?_
  refine nx_then ?_
  refine cd_seq ?_
  refine cd_seq ?_
  refine cd_region ?_
  refine st_val (ro_loadA (cs := [_, _, _, _, _]) CmdCode_g26 CmdCode_z26 rfl (by exact (hk1.from_ From.rfl_).whole)) ?_
  refine st_call CmdCode_k13 (mcmd_ok (k : Nat) (c : Nat) (s : Nat) i t _ (by omega) (by omega) ho) ?_
  rintro v12 w2 ⟨rfl, E12⟩
  refine st_val (ro_neq rfl rfl) ?_
  refine st_nil ?_
  refine nx_then ?_
  refine cd_cond rfl (fun Q3 => ?_) (fun Q3 => ?_)
  · (try first | replace Q3 := bn_t Q3 | replace Q3 := bn_f Q3)
    (try first | replace Q3 := bx_t Q3 | replace Q3 := bx_f Q3 | replace Q3 := be_t Q3 | replace Q3 := be_f Q3 | replace Q3 := of_decide_eq_true Q3 | replace Q3 := of_decide_eq_false Q3)
    first
     | (exfalso; first | omega | contradiction | (cases Q3; done))
     | skip
       refine cd_seq ?_
       refine cd_region ?_
       refine st_val (ro_assign (v := .slice _ _ _) rfl) ?_
       refine st_val (ro_assign (v := .int _ _) rfl) ?_
       refine st_nil ?_
       refine nx_then ?_
       refine cd_ret ?_
       refine rt_then ?_
       refine res2 (v := .slice _ _ _) (v' := .int _ _) rfl rfl rfl ?_
       exact ⟨⟨A45, c45, rfl, hr45⟩, ((From.rfl_.next E1).next E12)⟩
  · (try first | replace Q3 := bn_t Q3 | replace Q3 := bn_f Q3)
    (try first | replace Q3 := bx_t Q3 | replace Q3 := bx_f Q3 | replace Q3 := be_t Q3 | replace Q3 := be_f Q3 | replace Q3 := of_decide_eq_true Q3 | replace Q3 := of_decide_eq_false Q3)
    first
     | (exfalso; first | omega | contradiction | (cases Q3; done))
     | skip
       refine cd_skip ?_
       refine nx_then ?_
       refine cd_seq ?_
       refine cd_region ?_
       refine st_val (ro_assign (v := .slice _ _ _) rfl) ?_
       refine st_nil ?_
       refine nx_then ?_
       refine cd_seq ?_
       refine cd_seq ?_
       refine cd_region ?_
       refine st_val (ro_fieldAddr CmdCode_f26_0 rfl) ?_
       refine st_val (ro_load CmdCode_g3 rfl (by exact (hk1.from_ (From.rfl_.next E12)).rd 0 rfl)) ?_
       refine st_val (ro_fieldAddr CmdCode_f26_1 rfl) ?_
       refine st_val (ro_load CmdCode_g3 rfl (by exact (hk1.from_ (From.rfl_.next E12)).rd 1 rfl)) ?_
       refine st_val (ro_fieldAddr CmdCode_f26_2 rfl) ?_
       refine st_val (ro_load CmdCode_g3 rfl (by exact (hk1.from_ (From.rfl_.next E12)).rd 2 rfl)) ?_
       refine st_val (ro_build (by rfl)) ?_
       refine st_val (ro_move (v := .int _ _) rfl) ?_
       refine st_nil ?_
       refine nx_then ?_
       refine cd_block ?_
       refine cd_loop (G := Nat × Option Addr × Nat) [2, 3, 6, 7, 8, 22, 23, 24, 25, 26, 27, 28, 29, 30, 31, 32, 33, 34, 35, 36] (fun (j, A4, c4) => [(4, .slice A4 j c4), (21, .int .i64 (j : Nat))]) (fun (j, A4, c4) w' => j ≤ 3 ∧ w'.ownsRow w.heap.size 9 1 (.slice A4 j c4) j (((tsN k c s).take j).map .string) ∧ Blk w' b1 26 #[.int .i64 (k : Nat), .int .i64 (c : Nat), .int .i64 (s : Nat), .string i, .string t] ∧ From w w') (fun (j, _, _) => 3 - j) ((0, none, 0)) ⟨rfl, rfl, trivial⟩ ?_ ?_
       · exact ⟨Nat.zero_le _, World.ownsRow_nil _ _ _ _, hk1.from_ (From.rfl_.next E12), ((From.rfl_.next E1).next E12)⟩
       rintro ⟨j, A4, c4⟩ ρ4 w4 ⟨hj, ho4, hP1, hB⟩
       refine cd_seq ?_
       refine cd_region ?_
       refine st_val (ro_lss rfl rfl) ?_
       refine st_nil ?_
       refine nx_then ?_
       refine cd_seq ?_
       refine cd_cond rfl (fun Q5 => ?_) (fun Q5 => ?_)
       · (try first | replace Q5 := bn_t Q5 | replace Q5 := bn_f Q5)
         (try first | replace Q5 := bx_t Q5 | replace Q5 := bx_f Q5 | replace Q5 := be_t Q5 | replace Q5 := be_f Q5 | replace Q5 := of_decide_eq_true Q5 | replace Q5 := of_decide_eq_false Q5)
         obtain ⟨m, hm9, hcs, hts⟩ := arr3 hk hc hs j (by omega)
         first
          | (exfalso; first | omega | contradiction | (cases Q5; done))
          | skip
            refine cd_skip ?_
            refine nx_then ?_
            refine cd_seq ?_
            refine cd_block ?_
            refine cd_seq ?_
            refine cd_region ?_
            refine st_val (ro_indexArr (m := 3) (e := 3) (by kernel_rfl) CmdCode_z3 CmdCode_g3 rfl rfl (by omega) hcs) ?_
            refine st_val (ro_assign (v := .int _ _) rfl) ?_
            refine st_nil ?_
            refine nx_then ?_
            refine cd_seq ?_
            refine cd_region ?_
            refine st_val (ro_move (v := .int _ _) rfl) ?_
            refine st_call CmdCode_k14 (num_w m hm9 _) ?_
            rintro v26 w6 ⟨A26, c26, rfl, hr26, E26⟩
            refine st_val (ro_move (v := .tuple _) rfl) ?_
            refine st_val (ro_extract rfl rfl) ?_
            refine st_val (ro_extract rfl rfl) ?_
            refine st_val (ro_assign (v := .slice _ _ _) rfl) ?_
            refine st_val (ro_assign (v := .int _ _) rfl) ?_
            refine st_nil ?_
            refine nx_then ?_
            refine cd_seq ?_
            refine cd_seq ?_
            refine cd_region ?_
            refine st_val (ro_move (v := .int _ _) rfl) ?_
            refine st_val (ro_neq rfl rfl) ?_
            refine st_nil ?_
            refine nx_then ?_
            refine cd_cond rfl (fun Q7 => ?_) (fun Q7 => ?_)
            · (try first | replace Q7 := bn_t Q7 | replace Q7 := bn_f Q7)
              (try first | replace Q7 := bx_t Q7 | replace Q7 := bx_f Q7 | replace Q7 := be_t Q7 | replace Q7 := be_f Q7 | replace Q7 := of_decide_eq_true Q7 | replace Q7 := of_decide_eq_false Q7)
              first
               | (exfalso; first | omega | contradiction | (cases Q7; done))
               | skip
                 refine cd_seq ?_
                 refine cd_region ?_
                 refine st_val (ro_assign (v := .slice _ _ _) rfl) ?_
                 refine st_val (ro_assign (v := .int _ _) rfl) ?_
                 refine st_nil ?_
                 refine nx_then ?_
                 refine cd_ret ?_
                 refine rt_then ?_
                 refine rt_block ?_
                 refine rt_then ?_
                 refine rt_then ?_
                 refine rt_block ?_
                 refine rt_then ?_
                 refine res2 (v := .slice _ _ _) (v' := .int _ _) rfl rfl rfl ?_
                 exact ⟨⟨A45, c45, rfl, hr45⟩, (hB.next E26)⟩
            · (try first | replace Q7 := bn_t Q7 | replace Q7 := bn_f Q7)
              (try first | replace Q7 := bx_t Q7 | replace Q7 := bx_f Q7 | replace Q7 := be_t Q7 | replace Q7 := be_f Q7 | replace Q7 := of_decide_eq_true Q7 | replace Q7 := of_decide_eq_false Q7)
              first
               | (exfalso; first | omega | contradiction | (cases Q7; done))
               | skip
                 refine cd_skip ?_
                 refine nx_then ?_
                 refine cd_region ?_
                 refine st_val (ro_move (v := .slice _ _ _) rfl) ?_
                 refine st_val (ro_move (v := .slice _ _ _) rfl) ?_
                 refine st_val (ro_convStr (l := nums m) (nums_byte9 hm9) rfl hr26) ?_
                 refine st_lit1 (v := .string _) CmdCode_q37 rfl rfl rfl ?_
                 intro b34 w8 E34 hb34 hk34
                 refine st_push1 (a0 := w) CmdCode_q37 rfl rfl (ho4.kept_from (E26.next E34)) ((hB.next E26).next E34) rfl hk34 rfl (by omega) (by omega) ?_
                 intro A35 c35 w9 ho35 B35 hg35
                 refine st_val (ro_assign (v := .slice _ _ _) rfl) ?_
                 refine st_nil ?_
                 refine nx_block ?_
                 refine nx_then ?_
                 refine cd_region ?_
                 refine st_val (ro_addN (b := 1) rfl rfl (by omega)) ?_
                 refine st_val (ro_move (v := .int _ _) rfl) ?_
                 refine st_nil ?_
                 refine nx_cut ((j + 1, A35, c35)) ⟨(by first | rfl | (refine int_eq ?_; omega)), (by first | rfl | (refine int_eq ?_; omega)), trivial⟩ (by (iterate 42 refine agr_cons rfl ?_); exact agr_rfl) ⟨?_, ?_⟩
                 · exact ⟨by omega, by rw [hts, List.map_append]; exact ho35, (hP1.from_ (E26.next E34)).grown hg35 (own_off (ho4.kept_from (E26.next E34)) (hP1.from_ (E26.next E34)) (by decide)), B35⟩
                 · show 3 - (j + 1) < 3 - j; omega
       · (try first | replace Q5 := bn_t Q5 | replace Q5 := bn_f Q5)
         (try first | replace Q5 := bx_t Q5 | replace Q5 := bx_f Q5 | replace Q5 := be_t Q5 | replace Q5 := be_f Q5 | replace Q5 := of_decide_eq_true Q5 | replace Q5 := of_decide_eq_false Q5)
         obtain rfl : j = 3 := by omega
         have hts9 : ∀ x ∈ tsC k c s i t, x.size ≤ 140737488351232 := fun x hx => by have := putB_mem hx; omega
         first
          | (exfalso; first | omega | contradiction | (cases Q5; done))
          | skip
            refine cd_exit ?_
            refine ex_then ?_
            refine ex_then ?_
            refine ex_block ?_
            refine nx_then ?_
            refine cd_seq ?_
            refine cd_region ?_
            refine st_val (ro_move (v := .slice _ _ _) rfl) ?_
            refine st_val (ro_fieldAddr CmdCode_f26_3 rfl) ?_
            refine st_val (ro_load CmdCode_g9 rfl (by exact (hP1.from_ From.rfl_).rd 3 rfl)) ?_
            refine st_val (ro_fieldAddr CmdCode_f26_4 rfl) ?_
            refine st_val (ro_load CmdCode_g9 rfl (by exact (hP1.from_ From.rfl_).rd 4 rfl)) ?_
            refine st_lits [.tmp 40, .tmp 42] [.string _, .string _] CmdCode_q37 rfl rfl rfl rfl (by simp [Value.cells]) ?_
            intro b43 w10 E43 hb43 hk43
            refine st_append (a0 := w) (news := [.string i, .string t]) CmdCode_q37 rfl (by decide) rfl (ho4.kept_from E43) (hB.next E43) rfl rfl (fun _ => ⟨b43, 0, rfl, hk43.whole⟩) (fun h => by cases h) (by simp [Value.oneCell']) (by omega) (by omega) ?_
            intro A44 c44 w11 ho44 B44 hg44
            refine st_call CmdCode_k15 (put_w A44 c44 _ (tsC k c s i t) _ rfl (RowC.of_own ho44) hts9 hfit) ?_
            rintro v45 w12 ⟨A45, c45, rfl, hr45, E45⟩
            refine st_val (ro_move (v := .tuple _) rfl) ?_
            refine st_val (ro_extract rfl rfl) ?_
            refine st_val (ro_extract rfl rfl) ?_
            refine st_val (ro_assign (v := .slice _ _ _) rfl) ?_
            refine st_val (ro_assign (v := .int _ _) rfl) ?_
            refine st_nil ?_
            refine nx_then ?_
            refine cd_seq ?_
            refine cd_seq ?_
            refine cd_region ?_
            refine st_val (ro_move (v := .int _ _) rfl) ?_
            refine st_val (ro_neq rfl rfl) ?_
            refine st_nil ?_
            refine nx_then ?_
            refine cd_cond rfl (fun Q13 => ?_) (fun Q13 => ?_)
            · (try first | replace Q13 := bn_t Q13 | replace Q13 := bn_f Q13)
              (try first | replace Q13 := bx_t Q13 | replace Q13 := bx_f Q13 | replace Q13 := be_t Q13 | replace Q13 := be_f Q13 | replace Q13 := of_decide_eq_true Q13 | replace Q13 := of_decide_eq_false Q13)
              first
               | (exfalso; first | omega | contradiction | (cases Q13; done))
               | skip
                 refine cd_seq ?_
                 refine cd_region ?_
                 refine st_val (ro_assign (v := .slice _ _ _) rfl) ?_
                 refine st_val (ro_assign (v := .int _ _) rfl) ?_
                 refine st_nil ?_
                 refine nx_then ?_
                 refine cd_ret ?_
                 refine rt_then ?_
                 refine res2 (v := .slice _ _ _) (v' := .int _ _) rfl rfl rfl ?_
                 exact ⟨⟨A45, c45, rfl, hr45⟩, (B44.next E45)⟩
            · (try first | replace Q13 := bn_t Q13 | replace Q13 := bn_f Q13)
              (try first | replace Q13 := bx_t Q13 | replace Q13 := bx_f Q13 | replace Q13 := be_t Q13 | replace Q13 := be_f Q13 | replace Q13 := of_decide_eq_true Q13 | replace Q13 := of_decide_eq_false Q13)
              first
               | (exfalso; first | omega | contradiction | (cases Q13; done))
               | skip
                 refine cd_skip ?_
                 refine nx_then ?_
                 refine cd_seq ?_
                 refine cd_region ?_
                 refine st_val (ro_move (v := .slice _ _ _) rfl) ?_
                 refine st_val (ro_assign (v := .slice _ _ _) rfl) ?_
                 refine st_val (ro_assign (v := .int _ _) rfl) ?_
                 refine st_nil ?_
                 refine nx_then ?_
                 refine cd_ret ?_
                 refine res2 (v := .slice _ _ _) (v' := .int _ _) rfl rfl rfl ?_
                 exact ⟨⟨A45, c45, rfl, hr45⟩, (B44.next E45)⟩
theorem strs_cell {w : World} {base g n c : Nat} {ss : List ByteArray} (ho : w.ownsRow base 9 1 (.slice (some ⟨g, 0, none⟩) n c) n (ss.map .string)) (q : Nat) (h : q < ss.length) : w.cell? ⟨g, q, none⟩ = some (.string (sAt ss q)) := by
  rw [own_cell ho q h]
  unfold sAt
  rw [List.getD_eq_getElem?_getD, List.getElem?_eq_getElem h]
  rfl
def xP (ss : List ByteArray) (j q : Nat) : Value := .int .i64 ((if q < j then nvS ss q else 0 : Nat) : Int)
def cellsP (ss : List ByteArray) (j : Nat) : Array Value := #[xP ss j 0, xP ss j 1, xP ss j 2, .string (sAt ss 3), .string (sAt ss 4)]
theorem cellsP_step (ss : List ByteArray) {j : Nat} (h : j < 3) : (cellsP ss j).setIfInBounds j (.int .i64 (nvS ss j : Nat)) = cellsP ss (j + 1) := by
  match j, h with
  | 0, _ => rfl
  | 1, _ => rfl
  | 2, _ => rfl
theorem arrP (b : Nat) {j : Nat} (h : j < 3) : (#[.pointer (some ⟨b, 0, none⟩), .pointer (some ⟨b, 1, none⟩), .pointer (some ⟨b, 2, none⟩)] : Array Value)[j]? = some (.pointer (some ⟨b, j, none⟩)) := by
  match j, h with
  | 0, _ => rfl
  | 1, _ => rfl
  | 2, _ => rfl
theorem numS_no {s : ByteArray} (h : getNum (strB s) = none) : ¬ (numS s).isSome = true := by unfold numS; rw [h]; simp
theorem numS_far {s : ByteArray} {n k : Nat} (h : getNum (strB s) = some (n, k)) (hk : k ≠ s.size) : ¬ (numS s).isSome = true := by unfold numS; rw [h]; simp [hk]
theorem numS_is {s : ByteArray} {n k : Nat} (h : getNum (strB s) = some (n, k)) (hk : k = s.size) : numS s = some n := by unfold numS; rw [h]; simp [hk]
set_option maxRecDepth 100000 in
set_option maxHeartbeats 1500000 in
theorem parse_any (A : Option Addr) (c n : Nat) (l : List Nat) (hl : ∀ b ∈ l, b < 256) (w : World) (hr : RowC w (.slice A n c) (bytesV l)) :
    Rt Try.prog 5 [.slice A n c] w (fun v w' => ((∃ ss, getB l = some ss ∧ goodC ss ∧ v = .tuple #[cmdV (nvS ss 0 : Nat) (nvS ss 1 : Nat) (nvS ss 2 : Nat) (sAt ss 3) (sAt ss 4), .int .i64 0]) ∨ ((∀ ss, getB l = some ss → ¬ goodC ss) ∧ v = .tuple #[cmdV 0 0 0 ⟨#[]⟩ ⟨#[]⟩, .int .i64 1])) ∧ From w w') := by
  refine enter (n := 71) Try.func5 rfl rfl rfl ?_
  refine cd_seq ?_
  refine cd_region ?_
  refine st_alloc CmdCode_o26 ?_
  intro b2 w1 E2 hb2 hk2
  have hg2 : w.heap.size ≤ b2 := by rw [hb2]; exact Nat.le_refl _
  refine st_val (ro_assign (v := .int _ _) rfl) ?_
  refine st_nil ?_
  refine nx_then ?_
  refine cd_seq ?_
  refine cd_region ?_
  refine st_val (ro_move (v := .slice _ _ _) rfl) ?_
  refine st_call CmdCode_k11 (get_w A c n l hl _ (hr.from_ (From.rfl_.next E2))) ?_
  rintro v14 w2 ⟨hn14, E14⟩
  replace hk2 := hk2.from_ (From.rfl_.next E14)
  rcases hn14 with ⟨hg14, rfl⟩ | ⟨ss, A14, c14, hg14, rfl, hos⟩
  · refine st_val (ro_move (v := .tuple _) rfl) ?_
    refine st_val (ro_extract rfl rfl) ?_
    refine st_val (ro_extract rfl rfl) ?_
    refine st_val (ro_assign (v := .slice _ _ _) rfl) ?_
    refine st_val (ro_assign (v := .int _ _) rfl) ?_
    refine st_nil ?_
    refine nx_then ?_
    refine cd_seq ?_
    refine cd_seq ?_
    refine cd_region ?_
    refine st_val (ro_move (v := .int _ _) rfl) ?_
    refine st_val (ro_neq rfl rfl) ?_
    refine st_val (ro_move (v := .bool _) rfl) ?_
    refine st_split (t := 19) rfl (fun Q3 => ?_) (fun Q3 => ?_)
    · (try first | replace Q3 := bn_t Q3 | replace Q3 := bn_f Q3)
      (try first | replace Q3 := bx_t Q3 | replace Q3 := bx_f Q3 | replace Q3 := be_t Q3 | replace Q3 := be_f Q3 | replace Q3 := of_decide_eq_true Q3 | replace Q3 := of_decide_eq_false Q3)
      first
       | (exfalso; first | omega | contradiction | (cases Q3; done))
       | skip
         refine st_gno rfl rfl ?_
         refine st_gno rfl rfl ?_
         refine st_gno rfl rfl ?_
         refine st_val (ro_pickT (v := .bool _) rfl rfl) ?_
         refine st_nil ?_
         refine nx_then ?_
         refine cd_condT rfl ?_
         refine cd_seq ?_
         refine cd_region ?_
         refine st_val (ro_build (l := []) (CmdCode_b26_)) ?_
         refine st_putW (vs := [_, _, _, _, _]) CmdCode_z26 rfl rfl (by simp [Value.oneCell']) (hk2) rfl ?_
         intro w4 O3 P3
         refine st_val (ro_assign (v := .int _ _) rfl) ?_
         refine st_nil ?_
         refine nx_then ?_
         refine cd_ret ?_
         refine rt_then ?_
         refine resr2 rfl (rv_cellA (cs := [_, _, _, _, _]) CmdCode_g26 CmdCode_z26 rfl (by first | exact P3.whole | exact P10.whole | exact P14.whole | exact P15.whole)) (rv_tmp (v := .int _ _) rfl) ?_
         exact ⟨.inr ⟨fun ss2 h2 hgood => (by rw [hg14] at h2; cases h2 <;> (have := hgood.1; omega)), rfl⟩, (((From.rfl_.next E2).next E14).only O3 (hg2))⟩
    · (try first | replace Q3 := bn_t Q3 | replace Q3 := bn_f Q3)
      (try first | replace Q3 := bx_t Q3 | replace Q3 := bx_f Q3 | replace Q3 := be_t Q3 | replace Q3 := be_f Q3 | replace Q3 := of_decide_eq_true Q3 | replace Q3 := of_decide_eq_false Q3)
      first
       | (exfalso; first | omega | contradiction | (cases Q3; done))
       | skip
         refine st_unguard rfl ?_
         refine st_val (ro_move (v := .slice _ _ _) rfl) ?_
         refine st_unguard rfl ?_
         refine st_val (ro_len CmdCode_l37 rfl) ?_
         refine st_unguard rfl ?_
         refine st_val (ro_neq rfl rfl) ?_
         refine st_val (ro_pickF (v := .bool _) rfl rfl) ?_
         refine st_nil ?_
         refine nx_then ?_
         refine cd_cond rfl (fun Q5 => ?_) (fun Q5 => ?_)
         · (try first | replace Q5 := bn_t Q5 | replace Q5 := bn_f Q5)
           (try first | replace Q5 := bx_t Q5 | replace Q5 := bx_f Q5 | replace Q5 := be_t Q5 | replace Q5 := be_f Q5 | replace Q5 := of_decide_eq_true Q5 | replace Q5 := of_decide_eq_false Q5)
           first
            | (exfalso; first | omega | contradiction | (cases Q5; done))
            | skip
              refine cd_seq ?_
              refine cd_region ?_
              refine st_val (ro_build (l := []) (CmdCode_b26_)) ?_
              refine st_putW (vs := [_, _, _, _, _]) CmdCode_z26 rfl rfl (by simp [Value.oneCell']) (hk2) rfl ?_
              intro w6 O3 P3
              refine st_val (ro_assign (v := .int _ _) rfl) ?_
              refine st_nil ?_
              refine nx_then ?_
              refine cd_ret ?_
              refine rt_then ?_
              refine resr2 rfl (rv_cellA (cs := [_, _, _, _, _]) CmdCode_g26 CmdCode_z26 rfl (by first | exact P3.whole | exact P10.whole | exact P14.whole | exact P15.whole)) (rv_tmp (v := .int _ _) rfl) ?_
              exact ⟨.inr ⟨fun ss2 h2 hgood => (by rw [hg14] at h2; cases h2 <;> (have := hgood.1; omega)), rfl⟩, (((From.rfl_.next E2).next E14).only O3 (hg2))⟩
         · (try first | replace Q5 := bn_t Q5 | replace Q5 := bn_f Q5)
           (try first | replace Q5 := bx_t Q5 | replace Q5 := bx_f Q5 | replace Q5 := be_t Q5 | replace Q5 := be_f Q5 | replace Q5 := of_decide_eq_true Q5 | replace Q5 := of_decide_eq_false Q5)
           have h5 : ss.length = 5 := by omega
           obtain ⟨g, rfl⟩ := own_some hos (by omega)
           have hsl := sAt_le hl hg14
           first
            | (exfalso; first | omega | contradiction | (cases Q5; done))
            | skip
              refine cd_skip ?_
              refine nx_then ?_
              refine cd_seq ?_
              apply cd_drawnD 8 [(25, eqp _), (26, eqp _), (27, eqp (.string (sAt ss 3))), (28, eqp _), (29, eqp _), (30, eqp (.string (sAt ss 4))), (31, eqp _), (6, fun v w' => ∃ b, v = .pointer (some ⟨b, 0, none⟩) ∧ (w.heap.size ≤ b ∧ b2 < b) ∧ Blk w' b 26 #[.int .i64 0, .int .i64 0, .int .i64 0, .string ⟨#[]⟩, .string ⟨#[]⟩])] (by repeat first | exact pq_body | refine pq_then ?_ | refine pq_block ?_) (by kernel_rfl) (by kernel_rfl) ⟨eqp_mono _, eqp_mono _, eqp_mono _, eqp_mono _, eqp_mono _, eqp_mono _, eqp_mono _, (fun _ _ _ hF ⟨b, e, h, hb⟩ => ⟨b, e, h, hb.from_ hF⟩), trivial⟩
              case hop =>
               refine ⟨?_, ?_⟩
               · rintro - w8 D8
                 show OpOK _ _ _ _ _ _ _
                 exact ok_pure (ro_move (v := .slice _ _ _) rfl) rfl
               refine ⟨?_, ?_⟩
               · rintro - w9 D9
                 rintro _ rfl
                 show OpOK _ _ _ _ _ _ _
                 exact ok_pure (ro_indexAddr0 (i := 3) CmdCode_e37 rfl rfl (by omega)) rfl
               refine ⟨?_, ?_⟩
               · rintro - w10 D10
                 rintro _ rfl
                 show OpOK _ _ _ _ _ _ _
                 exact ok_pure (ro_load CmdCode_g9 rfl (strs_cell (hos.kept_from D10) 3 (by omega))) rfl
               refine ⟨?_, ?_⟩
               · rintro - w11 D11
                 show OpOK _ _ _ _ _ _ _
                 exact ok_pure (ro_move (v := .slice _ _ _) rfl) rfl
               refine ⟨?_, ?_⟩
               · rintro - w12 D12
                 rintro _ rfl
                 show OpOK _ _ _ _ _ _ _
                 exact ok_pure (ro_indexAddr0 (i := 4) CmdCode_e37 rfl rfl (by omega)) rfl
               refine ⟨?_, ?_⟩
               · rintro - w13 D13
                 rintro _ rfl
                 show OpOK _ _ _ _ _ _ _
                 exact ok_pure (ro_load CmdCode_g9 rfl (strs_cell (hos.kept_from D13) 4 (by omega))) rfl
               refine ⟨?_, ?_⟩
               · rintro - w14 D14
                 rintro v14_27 rfl v14_30 rfl
                 show OpOK _ _ _ _ _ _ _
                 exact ok_pure (ro_build (l := [(3, .tmp 27), (4, .tmp 30)]) (CmdCode_b26_3_4 _ _)) rfl
               refine ⟨?_, ?_⟩
               · rintro - w15 D15
                 show OpOK _ _ _ _ _ _ _
                 exact ok_val (ro_alloc CmdCode_o26) (From.rfl_.new _) ⟨_, rfl, ⟨((((From.rfl_.next E2).next E14).next D15)).size, (hk2.from_ D15).lt⟩, Blk.new _ _ _⟩
               exact trivial
              case hend =>
               intro w16 D16
               rintro _ rfl _ rfl v27 rfl _ rfl _ rfl v30 rfl _ rfl v6 ⟨b6, rfl, hg6, hk6⟩
               show St _ _ _ _ _ _ _
               replace hk2 := hk2.from_ D16
               replace hos := hos.kept_from D16
               refine st_putW (vs := [_, _, _, _, _]) CmdCode_z26 rfl rfl (by simp [Value.oneCell']) (hk6) rfl ?_
               intro w17 O4 P4
               replace hk2 := hk2.only O4 (by omega)
               replace hos := own_only3 hos O4 (own_off hos hk6 (by decide))
               refine st_nil ?_
               refine nx_then ?_
               refine cd_seq ?_
               refine cd_seq ?_
               refine cd_region ?_
               refine st_val (ro_fieldAddr CmdCode_f26_0 rfl) ?_
               refine st_val (ro_fieldAddr CmdCode_f26_1 rfl) ?_
               refine st_val (ro_fieldAddr CmdCode_f26_2 rfl) ?_
               refine st_val (ro_build (by rfl)) ?_
               refine st_val (ro_move (v := .int _ _) rfl) ?_
               refine st_nil ?_
               refine nx_then ?_
               refine cd_block ?_
               refine cd_loop (G := Nat) [3, 7, 8, 9, 10, 11, 37, 38, 39, 40, 41, 42, 43, 44, 45, 46, 47, 48, 49, 50, 51, 52, 53, 54, 55, 56, 57, 58, 59, 60, 61, 62, 63, 64, 65] (fun j => [(36, .int .i64 (j : Nat))]) (fun j w' => j ≤ 3 ∧ (∀ q, q < j → (numS (sAt ss q)).isSome = true) ∧ Blk w' b6 26 (cellsP ss j) ∧ Blk w' b2 26 #[.int .i64 0, .int .i64 0, .int .i64 0, .string ⟨#[]⟩, .string ⟨#[]⟩] ∧ w'.ownsRow w.heap.size 9 1 (.slice (some ⟨g, 0, none⟩) ss.length c14) ss.length (ss.map .string) ∧ From w w') (fun j => 3 - j) (0) ⟨rfl, trivial⟩ ?_ ?_
               · exact ⟨Nat.zero_le _, fun q h => absurd h (by omega), P4, hk2, hos, ((((From.rfl_.next E2).next E14).next D16).only O4 (hg6.1))⟩
               rintro j ρ18 w18 ⟨hj, hns, hP, hk2, hos, hB⟩
               refine cd_seq ?_
               refine cd_region ?_
               refine st_val (ro_lss rfl rfl) ?_
               refine st_nil ?_
               refine nx_then ?_
               refine cd_seq ?_
               refine cd_cond rfl (fun Q19 => ?_) (fun Q19 => ?_)
               · (try first | replace Q19 := bn_t Q19 | replace Q19 := bn_f Q19)
                 (try first | replace Q19 := bx_t Q19 | replace Q19 := bx_f Q19 | replace Q19 := be_t Q19 | replace Q19 := be_f Q19 | replace Q19 := of_decide_eq_true Q19 | replace Q19 := of_decide_eq_false Q19)
                 have hj3 : j < 3 := by omega
                 first
                  | (exfalso; first | omega | contradiction | (cases Q19; done))
                  | skip
                    refine cd_skip ?_
                    refine nx_then ?_
                    refine cd_seq ?_
                    refine cd_block ?_
                    refine cd_seq ?_
                    refine cd_region ?_
                    refine st_val (ro_move (v := .int _ _) rfl) ?_
                    refine st_val (ro_indexArr (m := 3) (e := 40) (by kernel_rfl) CmdCode_z40 CmdCode_g40 rfl rfl (by omega) (arrP b6 hj3)) ?_
                    refine st_val (ro_assign (v := .int _ _) rfl) ?_
                    refine st_val (ro_assign (v := .pointer _) rfl) ?_
                    refine st_nil ?_
                    refine nx_then ?_
                    refine cd_seq ?_
                    refine cd_region ?_
                    refine st_val (ro_move (v := .slice _ _ _) rfl) ?_
                    refine st_val (ro_move (v := .int _ _) rfl) ?_
                    refine st_val (ro_indexAddr0 CmdCode_e37 rfl rfl (by omega)) ?_
                    refine st_val (ro_load CmdCode_g9 rfl (by exact strs_cell (hos.kept_from From.rfl_) j (by omega))) ?_
                    refine st_convB rfl (by have := hsl j; omega) ?_
                    intro A45 c45 w20 E45 hr45
                    refine st_call CmdCode_k12 (getnum_w A45 c45 _ (strB (sAt ss j)) (strB_lt _) _ hr45) ?_
                    rintro v46 w21 ⟨rfl, rfl⟩
                    rcases hN : getNum (strB (sAt ss j)) with _ | ⟨n46, k46⟩
                    · refine st_val (ro_move (v := .tuple _) rfl) ?_
                      refine st_val (ro_extract rfl rfl) ?_
                      refine st_val (ro_extract rfl rfl) ?_
                      refine st_val (ro_extract rfl rfl) ?_
                      refine st_val (ro_assign (v := .int _ _) rfl) ?_
                      refine st_val (ro_assign (v := .int _ _) rfl) ?_
                      refine st_val (ro_assign (v := .int _ _) rfl) ?_
                      refine st_nil ?_
                      refine nx_then ?_
                      refine cd_seq ?_
                      refine cd_seq ?_
                      refine cd_region ?_
                      refine st_val (ro_move (v := .int _ _) rfl) ?_
                      refine st_val (ro_neq rfl rfl) ?_
                      refine st_val (ro_move (v := .bool _) rfl) ?_
                      refine st_split (t := 52) rfl (fun Q22 => ?_) (fun Q22 => ?_)
                      · (try first | replace Q22 := bn_t Q22 | replace Q22 := bn_f Q22)
                        (try first | replace Q22 := bx_t Q22 | replace Q22 := bx_f Q22 | replace Q22 := be_t Q22 | replace Q22 := be_f Q22 | replace Q22 := of_decide_eq_true Q22 | replace Q22 := of_decide_eq_false Q22)
                        first
                         | (exfalso; first | omega | contradiction | (cases Q22; done))
                         | skip
                           refine st_gno rfl rfl ?_
                           refine st_gno rfl rfl ?_
                           refine st_gno rfl rfl ?_
                           refine st_gno rfl rfl ?_
                           refine st_gno rfl rfl ?_
                           refine st_gno rfl rfl ?_
                           refine st_gno rfl rfl ?_
                           refine st_val (ro_pickT (v := .bool _) rfl rfl) ?_
                           refine st_nil ?_
                           refine nx_then ?_
                           refine cd_condT rfl ?_
                           refine cd_seq ?_
                           refine cd_region ?_
                           refine st_val (ro_build (l := []) (CmdCode_b26_)) ?_
                           refine st_putW (vs := [_, _, _, _, _]) CmdCode_z26 rfl rfl (by simp [Value.oneCell']) ((hk2.from_ E45)) rfl ?_
                           intro w23 O10 P10
                           refine st_val (ro_assign (v := .int _ _) rfl) ?_
                           refine st_nil ?_
                           refine nx_then ?_
                           refine cd_ret ?_
                           refine rt_then ?_
                           refine rt_block ?_
                           refine rt_then ?_
                           refine rt_then ?_
                           refine rt_block ?_
                           refine rt_then ?_
                           refine resr2 rfl (rv_cellA (cs := [_, _, _, _, _]) CmdCode_g26 CmdCode_z26 rfl (by first | exact P3.whole | exact P10.whole | exact P14.whole | exact P15.whole)) (rv_tmp (v := .int _ _) rfl) ?_
                           first
                             | exact ⟨.inr ⟨fun ss2 h2 hgood => (by rw [hg14] at h2; cases h2; exact numS_no hN (hgood.2.1 j hj3)), rfl⟩, ((hB.next E45).only O10 (hg2))⟩
                             | exact ⟨.inr ⟨fun ss2 h2 hgood => (by rw [hg14] at h2; cases h2; exact numS_far hN (by omega) (hgood.2.1 j hj3)), rfl⟩, ((hB.next E45).only O10 (hg2))⟩
                      · (try first | replace Q22 := bn_t Q22 | replace Q22 := bn_f Q22)
                        (try first | replace Q22 := bx_t Q22 | replace Q22 := bx_f Q22 | replace Q22 := be_t Q22 | replace Q22 := be_f Q22 | replace Q22 := of_decide_eq_true Q22 | replace Q22 := of_decide_eq_false Q22)
                        first
                         | (exfalso; first | omega | contradiction | (cases Q22; done))
                         | skip
                           refine st_unguard rfl ?_
                           refine st_val (ro_move (v := .int _ _) rfl) ?_
                           refine st_unguard rfl ?_
                           refine st_val (ro_move (v := .slice _ _ _) rfl) ?_
                           refine st_unguard rfl ?_
                           refine st_val (ro_move (v := .int _ _) rfl) ?_
                           refine st_unguard rfl ?_
                           refine st_val (ro_indexAddr0 CmdCode_e37 rfl rfl (by omega)) ?_
                           refine st_unguard rfl ?_
                           refine st_val (ro_load CmdCode_g9 rfl (by exact strs_cell (hos.kept_from E45) j (by omega))) ?_
                           refine st_unguard rfl ?_
                           refine st_val (ro_lenS (by kernel_rfl) rfl) ?_
                           refine st_unguard rfl ?_
                           refine st_val (ro_neq rfl rfl) ?_
                           refine st_val (ro_pickF (v := .bool _) rfl rfl) ?_
                           refine st_nil ?_
                           refine nx_then ?_
                           refine cd_cond rfl (fun Q24 => ?_) (fun Q24 => ?_)
                           · (try first | replace Q24 := bn_t Q24 | replace Q24 := bn_f Q24)
                             (try first | replace Q24 := bx_t Q24 | replace Q24 := bx_f Q24 | replace Q24 := be_t Q24 | replace Q24 := be_f Q24 | replace Q24 := of_decide_eq_true Q24 | replace Q24 := of_decide_eq_false Q24)
                             first
                              | (exfalso; first | omega | contradiction | (cases Q24; done))
                              | skip
                                refine cd_seq ?_
                                refine cd_region ?_
                                refine st_val (ro_build (l := []) (CmdCode_b26_)) ?_
                                refine st_putW (vs := [_, _, _, _, _]) CmdCode_z26 rfl rfl (by simp [Value.oneCell']) ((hk2.from_ E45)) rfl ?_
                                intro w25 O10 P10
                                refine st_val (ro_assign (v := .int _ _) rfl) ?_
                                refine st_nil ?_
                                refine nx_then ?_
                                refine cd_ret ?_
                                refine rt_then ?_
                                refine rt_block ?_
                                refine rt_then ?_
                                refine rt_then ?_
                                refine rt_block ?_
                                refine rt_then ?_
                                refine resr2 rfl (rv_cellA (cs := [_, _, _, _, _]) CmdCode_g26 CmdCode_z26 rfl (by first | exact P3.whole | exact P10.whole | exact P14.whole | exact P15.whole)) (rv_tmp (v := .int _ _) rfl) ?_
                                first
                                  | exact ⟨.inr ⟨fun ss2 h2 hgood => (by rw [hg14] at h2; cases h2; exact numS_no hN (hgood.2.1 j hj3)), rfl⟩, ((hB.next E45).only O10 (hg2))⟩
                                  | exact ⟨.inr ⟨fun ss2 h2 hgood => (by rw [hg14] at h2; cases h2; exact numS_far hN (by omega) (hgood.2.1 j hj3)), rfl⟩, ((hB.next E45).only O10 (hg2))⟩
                           · (try first | replace Q24 := bn_t Q24 | replace Q24 := bn_f Q24)
                             (try first | replace Q24 := bx_t Q24 | replace Q24 := bx_f Q24 | replace Q24 := be_t Q24 | replace Q24 := be_f Q24 | replace Q24 := of_decide_eq_true Q24 | replace Q24 := of_decide_eq_false Q24)
                             have hnj : numS (sAt ss j) = some n46 := numS_is hN (by omega)
                             have hnv : nvS ss j = n46 := by unfold nvS; rw [hnj]; rfl
                             first
                              | (exfalso; first | omega | contradiction | (cases Q24; done))
                              | skip
                                refine cd_skip ?_
                                refine nx_then ?_
                                refine cd_region ?_
                                refine st_val (ro_move (v := .pointer _) rfl) ?_
                                refine st_val (ro_move (v := .int _ _) rfl) ?_
                                refine st_val (ro_nilCheck rfl) ?_
                                refine st_put (v := .int _ _) CmdCode_z3 rfl rfl rfl ((hP.from_ E45)) (by show j < 5; omega) ?_
                                intro w26 O11 P11
                                rw [← hnv, cellsP_step ss hj3] at P11
                                replace hk2 := (hk2.from_ E45).only O11 (by omega)
                                replace hos := own_only3 (hos.kept_from E45) O11 (own_off (hos.kept_from E45) (hP.from_ E45) (by decide))
                                refine st_nil ?_
                                refine nx_block ?_
                                refine nx_then ?_
                                refine cd_region ?_
                                refine st_val (ro_addN (b := 1) rfl rfl (by omega)) ?_
                                refine st_val (ro_move (v := .int _ _) rfl) ?_
                                refine st_nil ?_
                                refine nx_cut (j + 1) ⟨(by first | rfl | (refine int_eq ?_; omega)), trivial⟩ (by (iterate 71 refine agr_cons rfl ?_); exact agr_rfl) ⟨?_, ?_⟩
                                · exact ⟨by omega, fun q hq => by
                                    rcases Nat.lt_or_ge q j with a | a
                                    · exact hns q a
                                    · obtain rfl : q = j := by omega
                                      rw [hnj]; rfl, P11, hk2, hos, ((hB.next E45).only O11 (hg6.1))⟩
                                · omega
                    · refine st_val (ro_move (v := .tuple _) rfl) ?_
                      refine st_val (ro_extract rfl rfl) ?_
                      refine st_val (ro_extract rfl rfl) ?_
                      refine st_val (ro_extract rfl rfl) ?_
                      refine st_val (ro_assign (v := .int _ _) rfl) ?_
                      refine st_val (ro_assign (v := .int _ _) rfl) ?_
                      refine st_val (ro_assign (v := .int _ _) rfl) ?_
                      refine st_nil ?_
                      refine nx_then ?_
                      refine cd_seq ?_
                      refine cd_seq ?_
                      refine cd_region ?_
                      refine st_val (ro_move (v := .int _ _) rfl) ?_
                      refine st_val (ro_neq rfl rfl) ?_
                      refine st_val (ro_move (v := .bool _) rfl) ?_
                      refine st_split (t := 52) rfl (fun Q27 => ?_) (fun Q27 => ?_)
                      · (try first | replace Q27 := bn_t Q27 | replace Q27 := bn_f Q27)
                        (try first | replace Q27 := bx_t Q27 | replace Q27 := bx_f Q27 | replace Q27 := be_t Q27 | replace Q27 := be_f Q27 | replace Q27 := of_decide_eq_true Q27 | replace Q27 := of_decide_eq_false Q27)
                        first
                         | (exfalso; first | omega | contradiction | (cases Q27; done))
                         | skip
                           refine st_gno rfl rfl ?_
                           refine st_gno rfl rfl ?_
                           refine st_gno rfl rfl ?_
                           refine st_gno rfl rfl ?_
                           refine st_gno rfl rfl ?_
                           refine st_gno rfl rfl ?_
                           refine st_gno rfl rfl ?_
                           refine st_val (ro_pickT (v := .bool _) rfl rfl) ?_
                           refine st_nil ?_
                           refine nx_then ?_
                           refine cd_condT rfl ?_
                           refine cd_seq ?_
                           refine cd_region ?_
                           refine st_val (ro_build (l := []) (CmdCode_b26_)) ?_
                           refine st_putW (vs := [_, _, _, _, _]) CmdCode_z26 rfl rfl (by simp [Value.oneCell']) ((hk2.from_ E45)) rfl ?_
                           intro w28 O10 P10
                           refine st_val (ro_assign (v := .int _ _) rfl) ?_
                           refine st_nil ?_
                           refine nx_then ?_
                           refine cd_ret ?_
                           refine rt_then ?_
                           refine rt_block ?_
                           refine rt_then ?_
                           refine rt_then ?_
                           refine rt_block ?_
                           refine rt_then ?_
                           refine resr2 rfl (rv_cellA (cs := [_, _, _, _, _]) CmdCode_g26 CmdCode_z26 rfl (by first | exact P3.whole | exact P10.whole | exact P14.whole | exact P15.whole)) (rv_tmp (v := .int _ _) rfl) ?_
                           first
                             | exact ⟨.inr ⟨fun ss2 h2 hgood => (by rw [hg14] at h2; cases h2; exact numS_no hN (hgood.2.1 j hj3)), rfl⟩, ((hB.next E45).only O10 (hg2))⟩
                             | exact ⟨.inr ⟨fun ss2 h2 hgood => (by rw [hg14] at h2; cases h2; exact numS_far hN (by omega) (hgood.2.1 j hj3)), rfl⟩, ((hB.next E45).only O10 (hg2))⟩
                      · (try first | replace Q27 := bn_t Q27 | replace Q27 := bn_f Q27)
                        (try first | replace Q27 := bx_t Q27 | replace Q27 := bx_f Q27 | replace Q27 := be_t Q27 | replace Q27 := be_f Q27 | replace Q27 := of_decide_eq_true Q27 | replace Q27 := of_decide_eq_false Q27)
                        first
                         | (exfalso; first | omega | contradiction | (cases Q27; done))
                         | skip
                           refine st_unguard rfl ?_
                           refine st_val (ro_move (v := .int _ _) rfl) ?_
                           refine st_unguard rfl ?_
                           refine st_val (ro_move (v := .slice _ _ _) rfl) ?_
                           refine st_unguard rfl ?_
                           refine st_val (ro_move (v := .int _ _) rfl) ?_
                           refine st_unguard rfl ?_
                           refine st_val (ro_indexAddr0 CmdCode_e37 rfl rfl (by omega)) ?_
                           refine st_unguard rfl ?_
                           refine st_val (ro_load CmdCode_g9 rfl (by exact strs_cell (hos.kept_from E45) j (by omega))) ?_
                           refine st_unguard rfl ?_
                           refine st_val (ro_lenS (by kernel_rfl) rfl) ?_
                           refine st_unguard rfl ?_
                           refine st_val (ro_neq rfl rfl) ?_
                           refine st_val (ro_pickF (v := .bool _) rfl rfl) ?_
                           refine st_nil ?_
                           refine nx_then ?_
                           refine cd_cond rfl (fun Q29 => ?_) (fun Q29 => ?_)
                           · (try first | replace Q29 := bn_t Q29 | replace Q29 := bn_f Q29)
                             (try first | replace Q29 := bx_t Q29 | replace Q29 := bx_f Q29 | replace Q29 := be_t Q29 | replace Q29 := be_f Q29 | replace Q29 := of_decide_eq_true Q29 | replace Q29 := of_decide_eq_false Q29)
                             first
                              | (exfalso; first | omega | contradiction | (cases Q29; done))
                              | skip
                                refine cd_seq ?_
                                refine cd_region ?_
                                refine st_val (ro_build (l := []) (CmdCode_b26_)) ?_
                                refine st_putW (vs := [_, _, _, _, _]) CmdCode_z26 rfl rfl (by simp [Value.oneCell']) ((hk2.from_ E45)) rfl ?_
                                intro w30 O10 P10
                                refine st_val (ro_assign (v := .int _ _) rfl) ?_
                                refine st_nil ?_
                                refine nx_then ?_
                                refine cd_ret ?_
                                refine rt_then ?_
                                refine rt_block ?_
                                refine rt_then ?_
                                refine rt_then ?_
                                refine rt_block ?_
                                refine rt_then ?_
                                refine resr2 rfl (rv_cellA (cs := [_, _, _, _, _]) CmdCode_g26 CmdCode_z26 rfl (by first | exact P3.whole | exact P10.whole | exact P14.whole | exact P15.whole)) (rv_tmp (v := .int _ _) rfl) ?_
                                first
                                  | exact ⟨.inr ⟨fun ss2 h2 hgood => (by rw [hg14] at h2; cases h2; exact numS_no hN (hgood.2.1 j hj3)), rfl⟩, ((hB.next E45).only O10 (hg2))⟩
                                  | exact ⟨.inr ⟨fun ss2 h2 hgood => (by rw [hg14] at h2; cases h2; exact numS_far hN (by omega) (hgood.2.1 j hj3)), rfl⟩, ((hB.next E45).only O10 (hg2))⟩
                           · (try first | replace Q29 := bn_t Q29 | replace Q29 := bn_f Q29)
                             (try first | replace Q29 := bx_t Q29 | replace Q29 := bx_f Q29 | replace Q29 := be_t Q29 | replace Q29 := be_f Q29 | replace Q29 := of_decide_eq_true Q29 | replace Q29 := of_decide_eq_false Q29)
                             have hnj : numS (sAt ss j) = some n46 := numS_is hN (by omega)
                             have hnv : nvS ss j = n46 := by unfold nvS; rw [hnj]; rfl
                             first
                              | (exfalso; first | omega | contradiction | (cases Q29; done))
                              | skip
                                refine cd_skip ?_
                                refine nx_then ?_
                                refine cd_region ?_
                                refine st_val (ro_move (v := .pointer _) rfl) ?_
                                refine st_val (ro_move (v := .int _ _) rfl) ?_
                                refine st_val (ro_nilCheck rfl) ?_
                                refine st_put (v := .int _ _) CmdCode_z3 rfl rfl rfl ((hP.from_ E45)) (by show j < 5; omega) ?_
                                intro w31 O11 P11
                                rw [← hnv, cellsP_step ss hj3] at P11
                                replace hk2 := (hk2.from_ E45).only O11 (by omega)
                                replace hos := own_only3 (hos.kept_from E45) O11 (own_off (hos.kept_from E45) (hP.from_ E45) (by decide))
                                refine st_nil ?_
                                refine nx_block ?_
                                refine nx_then ?_
                                refine cd_region ?_
                                refine st_val (ro_addN (b := 1) rfl rfl (by omega)) ?_
                                refine st_val (ro_move (v := .int _ _) rfl) ?_
                                refine st_nil ?_
                                refine nx_cut (j + 1) ⟨(by first | rfl | (refine int_eq ?_; omega)), trivial⟩ (by (iterate 71 refine agr_cons rfl ?_); exact agr_rfl) ⟨?_, ?_⟩
                                · exact ⟨by omega, fun q hq => by
                                    rcases Nat.lt_or_ge q j with a | a
                                    · exact hns q a
                                    · obtain rfl : q = j := by omega
                                      rw [hnj]; rfl, P11, hk2, hos, ((hB.next E45).only O11 (hg6.1))⟩
                                · omega
               · (try first | replace Q19 := bn_t Q19 | replace Q19 := bn_f Q19)
                 (try first | replace Q19 := bx_t Q19 | replace Q19 := bx_f Q19 | replace Q19 := be_t Q19 | replace Q19 := be_f Q19 | replace Q19 := of_decide_eq_true Q19 | replace Q19 := of_decide_eq_false Q19)
                 obtain rfl : j = 3 := by omega
                 replace hP : Blk w18 b6 26 #[.int .i64 (nvS ss 0 : Nat), .int .i64 (nvS ss 1 : Nat), .int .i64 (nvS ss 2 : Nat), .string (sAt ss 3), .string (sAt ss 4)] := hP
                 first
                  | (exfalso; first | omega | contradiction | (cases Q19; done))
                  | skip
                    refine cd_exit ?_
                    refine ex_then ?_
                    refine ex_then ?_
                    refine ex_block ?_
                    refine nx_then ?_
                    refine cd_seq ?_
                    refine cd_seq ?_
                    refine cd_region ?_
                    refine st_val (ro_loadA (cs := [_, _, _, _, _]) CmdCode_g26 CmdCode_z26 rfl (by exact (hP.from_ From.rfl_).whole)) ?_
                    refine st_call CmdCode_k13 (mcmd (nvS ss 0 : Nat) (nvS ss 1 : Nat) (nvS ss 2 : Nat) (sAt ss 3) (sAt ss 4) _ (by have := hsl 3; omega) (by have := hsl 4; omega)) ?_
                    rintro v67 w32 ⟨rfl, E67⟩
                    refine st_val (ro_neq rfl rfl) ?_
                    refine st_nil ?_
                    refine nx_then ?_
                    refine cd_cond rfl (fun Q33 => ?_) (fun Q33 => ?_)
                    · (try first | replace Q33 := bn_t Q33 | replace Q33 := bn_f Q33)
                      (try first | replace Q33 := bx_t Q33 | replace Q33 := bx_f Q33 | replace Q33 := be_t Q33 | replace Q33 := be_f Q33 | replace Q33 := of_decide_eq_true Q33 | replace Q33 := of_decide_eq_false Q33)
                      have hok : ¬ OkC (nvS ss 0 : Nat) (nvS ss 1 : Nat) (nvS ss 2 : Nat) (sAt ss 3) (sAt ss 4) := fun h => by rw [if_pos h] at Q33; exact absurd rfl Q33
                      first
                       | (exfalso; first | omega | contradiction | (cases Q33; done))
                       | skip
                         refine cd_seq ?_
                         refine cd_region ?_
                         refine st_val (ro_build (l := []) (CmdCode_b26_)) ?_
                         refine st_putW (vs := [_, _, _, _, _]) CmdCode_z26 rfl rfl (by simp [Value.oneCell']) ((hk2.from_ (From.rfl_.next E67))) rfl ?_
                         intro w34 O14 P14
                         refine st_val (ro_assign (v := .int _ _) rfl) ?_
                         refine st_nil ?_
                         refine nx_then ?_
                         refine cd_ret ?_
                         refine rt_then ?_
                         refine resr2 rfl (rv_cellA (cs := [_, _, _, _, _]) CmdCode_g26 CmdCode_z26 rfl (by first | exact P3.whole | exact P10.whole | exact P14.whole | exact P15.whole)) (rv_tmp (v := .int _ _) rfl) ?_
                         exact ⟨.inr ⟨fun ss2 h2 hgood => (by rw [hg14] at h2; cases h2; exact hok hgood.2.2), rfl⟩, ((hB.next E67).only O14 (hg2))⟩
                    · (try first | replace Q33 := bn_t Q33 | replace Q33 := bn_f Q33)
                      (try first | replace Q33 := bx_t Q33 | replace Q33 := bx_f Q33 | replace Q33 := be_t Q33 | replace Q33 := be_f Q33 | replace Q33 := of_decide_eq_true Q33 | replace Q33 := of_decide_eq_false Q33)
                      have hok : OkC (nvS ss 0 : Nat) (nvS ss 1 : Nat) (nvS ss 2 : Nat) (sAt ss 3) (sAt ss 4) := Classical.byContradiction fun h => by rw [if_neg h] at Q33; omega
                      first
                       | (exfalso; first | omega | contradiction | (cases Q33; done))
                       | skip
                         refine cd_skip ?_
                         refine nx_then ?_
                         refine cd_seq ?_
                         refine cd_region ?_
                         refine st_val (ro_loadA (cs := [_, _, _, _, _]) CmdCode_g26 CmdCode_z26 rfl (by exact (hP.from_ (From.rfl_.next E67)).whole)) ?_
                         refine st_putW (vs := [_, _, _, _, _]) CmdCode_z26 rfl rfl (by simp [Value.oneCell']) ((hk2.from_ (From.rfl_.next E67))) rfl ?_
                         intro w35 O15 P15
                         refine st_val (ro_assign (v := .int _ _) rfl) ?_
                         refine st_nil ?_
                         refine nx_then ?_
                         refine cd_ret ?_
                         refine resr2 rfl (rv_cellA (cs := [_, _, _, _, _]) CmdCode_g26 CmdCode_z26 rfl (by first | exact P3.whole | exact P10.whole | exact P14.whole | exact P15.whole)) (rv_tmp (v := .int _ _) rfl) ?_
                         exact ⟨.inl ⟨ss, hg14, ⟨h5, hns, hok⟩, rfl⟩, ((hB.next E67).only O15 (hg2))⟩
  · replace hos := own_le hos E2.size
    refine st_val (ro_move (v := .tuple _) rfl) ?_
    refine st_val (ro_extract rfl rfl) ?_
    refine st_val (ro_extract rfl rfl) ?_
    refine st_val (ro_assign (v := .slice _ _ _) rfl) ?_
    refine st_val (ro_assign (v := .int _ _) rfl) ?_
    refine st_nil ?_
    refine nx_then ?_
    refine cd_seq ?_
    refine cd_seq ?_
    refine cd_region ?_
    refine st_val (ro_move (v := .int _ _) rfl) ?_
    refine st_val (ro_neq rfl rfl) ?_
    refine st_val (ro_move (v := .bool _) rfl) ?_
    refine st_split (t := 19) rfl (fun Q36 => ?_) (fun Q36 => ?_)
    · (try first | replace Q36 := bn_t Q36 | replace Q36 := bn_f Q36)
      (try first | replace Q36 := bx_t Q36 | replace Q36 := bx_f Q36 | replace Q36 := be_t Q36 | replace Q36 := be_f Q36 | replace Q36 := of_decide_eq_true Q36 | replace Q36 := of_decide_eq_false Q36)
      first
       | (exfalso; first | omega | contradiction | (cases Q36; done))
       | skip
         refine st_gno rfl rfl ?_
         refine st_gno rfl rfl ?_
         refine st_gno rfl rfl ?_
         refine st_val (ro_pickT (v := .bool _) rfl rfl) ?_
         refine st_nil ?_
         refine nx_then ?_
         refine cd_condT rfl ?_
         refine cd_seq ?_
         refine cd_region ?_
         refine st_val (ro_build (l := []) (CmdCode_b26_)) ?_
         refine st_putW (vs := [_, _, _, _, _]) CmdCode_z26 rfl rfl (by simp [Value.oneCell']) (hk2) rfl ?_
         intro w37 O3 P3
         refine st_val (ro_assign (v := .int _ _) rfl) ?_
         refine st_nil ?_
         refine nx_then ?_
         refine cd_ret ?_
         refine rt_then ?_
         refine resr2 rfl (rv_cellA (cs := [_, _, _, _, _]) CmdCode_g26 CmdCode_z26 rfl (by first | exact P3.whole | exact P10.whole | exact P14.whole | exact P15.whole)) (rv_tmp (v := .int _ _) rfl) ?_
         exact ⟨.inr ⟨fun ss2 h2 hgood => (by rw [hg14] at h2; cases h2 <;> (have := hgood.1; omega)), rfl⟩, (((From.rfl_.next E2).next E14).only O3 (hg2))⟩
    · (try first | replace Q36 := bn_t Q36 | replace Q36 := bn_f Q36)
      (try first | replace Q36 := bx_t Q36 | replace Q36 := bx_f Q36 | replace Q36 := be_t Q36 | replace Q36 := be_f Q36 | replace Q36 := of_decide_eq_true Q36 | replace Q36 := of_decide_eq_false Q36)
      first
       | (exfalso; first | omega | contradiction | (cases Q36; done))
       | skip
         refine st_unguard rfl ?_
         refine st_val (ro_move (v := .slice _ _ _) rfl) ?_
         refine st_unguard rfl ?_
         refine st_val (ro_len CmdCode_l37 rfl) ?_
         refine st_unguard rfl ?_
         refine st_val (ro_neq rfl rfl) ?_
         refine st_val (ro_pickF (v := .bool _) rfl rfl) ?_
         refine st_nil ?_
         refine nx_then ?_
         refine cd_cond rfl (fun Q38 => ?_) (fun Q38 => ?_)
         · (try first | replace Q38 := bn_t Q38 | replace Q38 := bn_f Q38)
           (try first | replace Q38 := bx_t Q38 | replace Q38 := bx_f Q38 | replace Q38 := be_t Q38 | replace Q38 := be_f Q38 | replace Q38 := of_decide_eq_true Q38 | replace Q38 := of_decide_eq_false Q38)
           first
            | (exfalso; first | omega | contradiction | (cases Q38; done))
            | skip
              refine cd_seq ?_
              refine cd_region ?_
              refine st_val (ro_build (l := []) (CmdCode_b26_)) ?_
              refine st_putW (vs := [_, _, _, _, _]) CmdCode_z26 rfl rfl (by simp [Value.oneCell']) (hk2) rfl ?_
              intro w39 O3 P3
              refine st_val (ro_assign (v := .int _ _) rfl) ?_
              refine st_nil ?_
              refine nx_then ?_
              refine cd_ret ?_
              refine rt_then ?_
              refine resr2 rfl (rv_cellA (cs := [_, _, _, _, _]) CmdCode_g26 CmdCode_z26 rfl (by first | exact P3.whole | exact P10.whole | exact P14.whole | exact P15.whole)) (rv_tmp (v := .int _ _) rfl) ?_
              exact ⟨.inr ⟨fun ss2 h2 hgood => (by rw [hg14] at h2; cases h2 <;> (have := hgood.1; omega)), rfl⟩, (((From.rfl_.next E2).next E14).only O3 (hg2))⟩
         · (try first | replace Q38 := bn_t Q38 | replace Q38 := bn_f Q38)
           (try first | replace Q38 := bx_t Q38 | replace Q38 := bx_f Q38 | replace Q38 := be_t Q38 | replace Q38 := be_f Q38 | replace Q38 := of_decide_eq_true Q38 | replace Q38 := of_decide_eq_false Q38)
           have h5 : ss.length = 5 := by omega
           obtain ⟨g, rfl⟩ := own_some hos (by omega)
           have hsl := sAt_le hl hg14
           first
            | (exfalso; first | omega | contradiction | (cases Q38; done))
            | skip
              refine cd_skip ?_
              refine nx_then ?_
              refine cd_seq ?_
              apply cd_drawnD 8 [(25, eqp _), (26, eqp _), (27, eqp (.string (sAt ss 3))), (28, eqp _), (29, eqp _), (30, eqp (.string (sAt ss 4))), (31, eqp _), (6, fun v w' => ∃ b, v = .pointer (some ⟨b, 0, none⟩) ∧ (w.heap.size ≤ b ∧ b2 < b) ∧ Blk w' b 26 #[.int .i64 0, .int .i64 0, .int .i64 0, .string ⟨#[]⟩, .string ⟨#[]⟩])] (by repeat first | exact pq_body | refine pq_then ?_ | refine pq_block ?_) (by kernel_rfl) (by kernel_rfl) ⟨eqp_mono _, eqp_mono _, eqp_mono _, eqp_mono _, eqp_mono _, eqp_mono _, eqp_mono _, (fun _ _ _ hF ⟨b, e, h, hb⟩ => ⟨b, e, h, hb.from_ hF⟩), trivial⟩
              case hop =>
               refine ⟨?_, ?_⟩
               · rintro - w41 D41
                 show OpOK _ _ _ _ _ _ _
                 exact ok_pure (ro_move (v := .slice _ _ _) rfl) rfl
               refine ⟨?_, ?_⟩
               · rintro - w42 D42
                 rintro _ rfl
                 show OpOK _ _ _ _ _ _ _
                 exact ok_pure (ro_indexAddr0 (i := 3) CmdCode_e37 rfl rfl (by omega)) rfl
               refine ⟨?_, ?_⟩
               · rintro - w43 D43
                 rintro _ rfl
                 show OpOK _ _ _ _ _ _ _
                 exact ok_pure (ro_load CmdCode_g9 rfl (strs_cell (hos.kept_from D43) 3 (by omega))) rfl
               refine ⟨?_, ?_⟩
               · rintro - w44 D44
                 show OpOK _ _ _ _ _ _ _
                 exact ok_pure (ro_move (v := .slice _ _ _) rfl) rfl
               refine ⟨?_, ?_⟩
               · rintro - w45 D45
                 rintro _ rfl
                 show OpOK _ _ _ _ _ _ _
                 exact ok_pure (ro_indexAddr0 (i := 4) CmdCode_e37 rfl rfl (by omega)) rfl
               refine ⟨?_, ?_⟩
               · rintro - w46 D46
                 rintro _ rfl
                 show OpOK _ _ _ _ _ _ _
                 exact ok_pure (ro_load CmdCode_g9 rfl (strs_cell (hos.kept_from D46) 4 (by omega))) rfl
               refine ⟨?_, ?_⟩
               · rintro - w47 D47
                 rintro v47_27 rfl v47_30 rfl
                 show OpOK _ _ _ _ _ _ _
                 exact ok_pure (ro_build (l := [(3, .tmp 27), (4, .tmp 30)]) (CmdCode_b26_3_4 _ _)) rfl
               refine ⟨?_, ?_⟩
               · rintro - w48 D48
                 show OpOK _ _ _ _ _ _ _
                 exact ok_val (ro_alloc CmdCode_o26) (From.rfl_.new _) ⟨_, rfl, ⟨((((From.rfl_.next E2).next E14).next D48)).size, (hk2.from_ D48).lt⟩, Blk.new _ _ _⟩
               exact trivial
              case hend =>
               intro w49 D49
               rintro _ rfl _ rfl v27 rfl _ rfl _ rfl v30 rfl _ rfl v6 ⟨b6, rfl, hg6, hk6⟩
               show St _ _ _ _ _ _ _
               replace hk2 := hk2.from_ D49
               replace hos := hos.kept_from D49
               refine st_putW (vs := [_, _, _, _, _]) CmdCode_z26 rfl rfl (by simp [Value.oneCell']) (hk6) rfl ?_
               intro w50 O4 P4
               replace hk2 := hk2.only O4 (by omega)
               replace hos := own_only3 hos O4 (own_off hos hk6 (by decide))
               refine st_nil ?_
               refine nx_then ?_
               refine cd_seq ?_
               refine cd_seq ?_
               refine cd_region ?_
               refine st_val (ro_fieldAddr CmdCode_f26_0 rfl) ?_
               refine st_val (ro_fieldAddr CmdCode_f26_1 rfl) ?_
               refine st_val (ro_fieldAddr CmdCode_f26_2 rfl) ?_
               refine st_val (ro_build (by rfl)) ?_
               refine st_val (ro_move (v := .int _ _) rfl) ?_
               refine st_nil ?_
               refine nx_then ?_
               refine cd_block ?_
               refine cd_loop (G := Nat) [3, 7, 8, 9, 10, 11, 37, 38, 39, 40, 41, 42, 43, 44, 45, 46, 47, 48, 49, 50, 51, 52, 53, 54, 55, 56, 57, 58, 59, 60, 61, 62, 63, 64, 65] (fun j => [(36, .int .i64 (j : Nat))]) (fun j w' => j ≤ 3 ∧ (∀ q, q < j → (numS (sAt ss q)).isSome = true) ∧ Blk w' b6 26 (cellsP ss j) ∧ Blk w' b2 26 #[.int .i64 0, .int .i64 0, .int .i64 0, .string ⟨#[]⟩, .string ⟨#[]⟩] ∧ w'.ownsRow w.heap.size 9 1 (.slice (some ⟨g, 0, none⟩) ss.length c14) ss.length (ss.map .string) ∧ From w w') (fun j => 3 - j) (0) ⟨rfl, trivial⟩ ?_ ?_
               · exact ⟨Nat.zero_le _, fun q h => absurd h (by omega), P4, hk2, hos, ((((From.rfl_.next E2).next E14).next D49).only O4 (hg6.1))⟩
               rintro j ρ51 w51 ⟨hj, hns, hP, hk2, hos, hB⟩
               refine cd_seq ?_
               refine cd_region ?_
               refine st_val (ro_lss rfl rfl) ?_
               refine st_nil ?_
               refine nx_then ?_
               refine cd_seq ?_
               refine cd_cond rfl (fun Q52 => ?_) (fun Q52 => ?_)
               · (try first | replace Q52 := bn_t Q52 | replace Q52 := bn_f Q52)
                 (try first | replace Q52 := bx_t Q52 | replace Q52 := bx_f Q52 | replace Q52 := be_t Q52 | replace Q52 := be_f Q52 | replace Q52 := of_decide_eq_true Q52 | replace Q52 := of_decide_eq_false Q52)
                 have hj3 : j < 3 := by omega
                 first
                  | (exfalso; first | omega | contradiction | (cases Q52; done))
                  | skip
                    refine cd_skip ?_
                    refine nx_then ?_
                    refine cd_seq ?_
                    refine cd_block ?_
                    refine cd_seq ?_
                    refine cd_region ?_
                    refine st_val (ro_move (v := .int _ _) rfl) ?_
                    refine st_val (ro_indexArr (m := 3) (e := 40) (by kernel_rfl) CmdCode_z40 CmdCode_g40 rfl rfl (by omega) (arrP b6 hj3)) ?_
                    refine st_val (ro_assign (v := .int _ _) rfl) ?_
                    refine st_val (ro_assign (v := .pointer _) rfl) ?_
                    refine st_nil ?_
                    refine nx_then ?_
                    refine cd_seq ?_
                    refine cd_region ?_
                    refine st_val (ro_move (v := .slice _ _ _) rfl) ?_
                    refine st_val (ro_move (v := .int _ _) rfl) ?_
                    refine st_val (ro_indexAddr0 CmdCode_e37 rfl rfl (by omega)) ?_
                    refine st_val (ro_load CmdCode_g9 rfl (by exact strs_cell (hos.kept_from From.rfl_) j (by omega))) ?_
                    refine st_convB rfl (by have := hsl j; omega) ?_
                    intro A45 c45 w53 E45 hr45
                    refine st_call CmdCode_k12 (getnum_w A45 c45 _ (strB (sAt ss j)) (strB_lt _) _ hr45) ?_
                    rintro v46 w54 ⟨rfl, rfl⟩
                    rcases hN : getNum (strB (sAt ss j)) with _ | ⟨n46, k46⟩
                    · refine st_val (ro_move (v := .tuple _) rfl) ?_
                      refine st_val (ro_extract rfl rfl) ?_
                      refine st_val (ro_extract rfl rfl) ?_
                      refine st_val (ro_extract rfl rfl) ?_
                      refine st_val (ro_assign (v := .int _ _) rfl) ?_
                      refine st_val (ro_assign (v := .int _ _) rfl) ?_
                      refine st_val (ro_assign (v := .int _ _) rfl) ?_
                      refine st_nil ?_
                      refine nx_then ?_
                      refine cd_seq ?_
                      refine cd_seq ?_
                      refine cd_region ?_
                      refine st_val (ro_move (v := .int _ _) rfl) ?_
                      refine st_val (ro_neq rfl rfl) ?_
                      refine st_val (ro_move (v := .bool _) rfl) ?_
                      refine st_split (t := 52) rfl (fun Q55 => ?_) (fun Q55 => ?_)
                      · (try first | replace Q55 := bn_t Q55 | replace Q55 := bn_f Q55)
                        (try first | replace Q55 := bx_t Q55 | replace Q55 := bx_f Q55 | replace Q55 := be_t Q55 | replace Q55 := be_f Q55 | replace Q55 := of_decide_eq_true Q55 | replace Q55 := of_decide_eq_false Q55)
                        first
                         | (exfalso; first | omega | contradiction | (cases Q55; done))
                         | skip
                           refine st_gno rfl rfl ?_
                           refine st_gno rfl rfl ?_
                           refine st_gno rfl rfl ?_
                           refine st_gno rfl rfl ?_
                           refine st_gno rfl rfl ?_
                           refine st_gno rfl rfl ?_
                           refine st_gno rfl rfl ?_
                           refine st_val (ro_pickT (v := .bool _) rfl rfl) ?_
                           refine st_nil ?_
                           refine nx_then ?_
                           refine cd_condT rfl ?_
                           refine cd_seq ?_
                           refine cd_region ?_
                           refine st_val (ro_build (l := []) (CmdCode_b26_)) ?_
                           refine st_putW (vs := [_, _, _, _, _]) CmdCode_z26 rfl rfl (by simp [Value.oneCell']) ((hk2.from_ E45)) rfl ?_
                           intro w56 O10 P10
                           refine st_val (ro_assign (v := .int _ _) rfl) ?_
                           refine st_nil ?_
                           refine nx_then ?_
                           refine cd_ret ?_
                           refine rt_then ?_
                           refine rt_block ?_
                           refine rt_then ?_
                           refine rt_then ?_
                           refine rt_block ?_
                           refine rt_then ?_
                           refine resr2 rfl (rv_cellA (cs := [_, _, _, _, _]) CmdCode_g26 CmdCode_z26 rfl (by first | exact P3.whole | exact P10.whole | exact P14.whole | exact P15.whole)) (rv_tmp (v := .int _ _) rfl) ?_
                           first
                             | exact ⟨.inr ⟨fun ss2 h2 hgood => (by rw [hg14] at h2; cases h2; exact numS_no hN (hgood.2.1 j hj3)), rfl⟩, ((hB.next E45).only O10 (hg2))⟩
                             | exact ⟨.inr ⟨fun ss2 h2 hgood => (by rw [hg14] at h2; cases h2; exact numS_far hN (by omega) (hgood.2.1 j hj3)), rfl⟩, ((hB.next E45).only O10 (hg2))⟩
                      · (try first | replace Q55 := bn_t Q55 | replace Q55 := bn_f Q55)
                        (try first | replace Q55 := bx_t Q55 | replace Q55 := bx_f Q55 | replace Q55 := be_t Q55 | replace Q55 := be_f Q55 | replace Q55 := of_decide_eq_true Q55 | replace Q55 := of_decide_eq_false Q55)
                        first
                         | (exfalso; first | omega | contradiction | (cases Q55; done))
                         | skip
                           refine st_unguard rfl ?_
                           refine st_val (ro_move (v := .int _ _) rfl) ?_
                           refine st_unguard rfl ?_
                           refine st_val (ro_move (v := .slice _ _ _) rfl) ?_
                           refine st_unguard rfl ?_
                           refine st_val (ro_move (v := .int _ _) rfl) ?_
                           refine st_unguard rfl ?_
                           refine st_val (ro_indexAddr0 CmdCode_e37 rfl rfl (by omega)) ?_
                           refine st_unguard rfl ?_
                           refine st_val (ro_load CmdCode_g9 rfl (by exact strs_cell (hos.kept_from E45) j (by omega))) ?_
                           refine st_unguard rfl ?_
                           refine st_val (ro_lenS (by kernel_rfl) rfl) ?_
                           refine st_unguard rfl ?_
                           refine st_val (ro_neq rfl rfl) ?_
                           refine st_val (ro_pickF (v := .bool _) rfl rfl) ?_
                           refine st_nil ?_
                           refine nx_then ?_
                           refine cd_cond rfl (fun Q57 => ?_) (fun Q57 => ?_)
                           · (try first | replace Q57 := bn_t Q57 | replace Q57 := bn_f Q57)
                             (try first | replace Q57 := bx_t Q57 | replace Q57 := bx_f Q57 | replace Q57 := be_t Q57 | replace Q57 := be_f Q57 | replace Q57 := of_decide_eq_true Q57 | replace Q57 := of_decide_eq_false Q57)
                             first
                              | (exfalso; first | omega | contradiction | (cases Q57; done))
                              | skip
                                refine cd_seq ?_
                                refine cd_region ?_
                                refine st_val (ro_build (l := []) (CmdCode_b26_)) ?_
                                refine st_putW (vs := [_, _, _, _, _]) CmdCode_z26 rfl rfl (by simp [Value.oneCell']) ((hk2.from_ E45)) rfl ?_
                                intro w58 O10 P10
                                refine st_val (ro_assign (v := .int _ _) rfl) ?_
                                refine st_nil ?_
                                refine nx_then ?_
                                refine cd_ret ?_
                                refine rt_then ?_
                                refine rt_block ?_
                                refine rt_then ?_
                                refine rt_then ?_
                                refine rt_block ?_
                                refine rt_then ?_
                                refine resr2 rfl (rv_cellA (cs := [_, _, _, _, _]) CmdCode_g26 CmdCode_z26 rfl (by first | exact P3.whole | exact P10.whole | exact P14.whole | exact P15.whole)) (rv_tmp (v := .int _ _) rfl) ?_
                                first
                                  | exact ⟨.inr ⟨fun ss2 h2 hgood => (by rw [hg14] at h2; cases h2; exact numS_no hN (hgood.2.1 j hj3)), rfl⟩, ((hB.next E45).only O10 (hg2))⟩
                                  | exact ⟨.inr ⟨fun ss2 h2 hgood => (by rw [hg14] at h2; cases h2; exact numS_far hN (by omega) (hgood.2.1 j hj3)), rfl⟩, ((hB.next E45).only O10 (hg2))⟩
                           · (try first | replace Q57 := bn_t Q57 | replace Q57 := bn_f Q57)
                             (try first | replace Q57 := bx_t Q57 | replace Q57 := bx_f Q57 | replace Q57 := be_t Q57 | replace Q57 := be_f Q57 | replace Q57 := of_decide_eq_true Q57 | replace Q57 := of_decide_eq_false Q57)
                             have hnj : numS (sAt ss j) = some n46 := numS_is hN (by omega)
                             have hnv : nvS ss j = n46 := by unfold nvS; rw [hnj]; rfl
                             first
                              | (exfalso; first | omega | contradiction | (cases Q57; done))
                              | skip
                                refine cd_skip ?_
                                refine nx_then ?_
                                refine cd_region ?_
                                refine st_val (ro_move (v := .pointer _) rfl) ?_
                                refine st_val (ro_move (v := .int _ _) rfl) ?_
                                refine st_val (ro_nilCheck rfl) ?_
                                refine st_put (v := .int _ _) CmdCode_z3 rfl rfl rfl ((hP.from_ E45)) (by show j < 5; omega) ?_
                                intro w59 O11 P11
                                rw [← hnv, cellsP_step ss hj3] at P11
                                replace hk2 := (hk2.from_ E45).only O11 (by omega)
                                replace hos := own_only3 (hos.kept_from E45) O11 (own_off (hos.kept_from E45) (hP.from_ E45) (by decide))
                                refine st_nil ?_
                                refine nx_block ?_
                                refine nx_then ?_
                                refine cd_region ?_
                                refine st_val (ro_addN (b := 1) rfl rfl (by omega)) ?_
                                refine st_val (ro_move (v := .int _ _) rfl) ?_
                                refine st_nil ?_
                                refine nx_cut (j + 1) ⟨(by first | rfl | (refine int_eq ?_; omega)), trivial⟩ (by (iterate 71 refine agr_cons rfl ?_); exact agr_rfl) ⟨?_, ?_⟩
                                · exact ⟨by omega, fun q hq => by
                                    rcases Nat.lt_or_ge q j with a | a
                                    · exact hns q a
                                    · obtain rfl : q = j := by omega
                                      rw [hnj]; rfl, P11, hk2, hos, ((hB.next E45).only O11 (hg6.1))⟩
                                · omega
                    · refine st_val (ro_move (v := .tuple _) rfl) ?_
                      refine st_val (ro_extract rfl rfl) ?_
                      refine st_val (ro_extract rfl rfl) ?_
                      refine st_val (ro_extract rfl rfl) ?_
                      refine st_val (ro_assign (v := .int _ _) rfl) ?_
                      refine st_val (ro_assign (v := .int _ _) rfl) ?_
                      refine st_val (ro_assign (v := .int _ _) rfl) ?_
                      refine st_nil ?_
                      refine nx_then ?_
                      refine cd_seq ?_
                      refine cd_seq ?_
                      refine cd_region ?_
                      refine st_val (ro_move (v := .int _ _) rfl) ?_
                      refine st_val (ro_neq rfl rfl) ?_
                      refine st_val (ro_move (v := .bool _) rfl) ?_
                      refine st_split (t := 52) rfl (fun Q60 => ?_) (fun Q60 => ?_)
                      · (try first | replace Q60 := bn_t Q60 | replace Q60 := bn_f Q60)
                        (try first | replace Q60 := bx_t Q60 | replace Q60 := bx_f Q60 | replace Q60 := be_t Q60 | replace Q60 := be_f Q60 | replace Q60 := of_decide_eq_true Q60 | replace Q60 := of_decide_eq_false Q60)
                        first
                         | (exfalso; first | omega | contradiction | (cases Q60; done))
                         | skip
                           refine st_gno rfl rfl ?_
                           refine st_gno rfl rfl ?_
                           refine st_gno rfl rfl ?_
                           refine st_gno rfl rfl ?_
                           refine st_gno rfl rfl ?_
                           refine st_gno rfl rfl ?_
                           refine st_gno rfl rfl ?_
                           refine st_val (ro_pickT (v := .bool _) rfl rfl) ?_
                           refine st_nil ?_
                           refine nx_then ?_
                           refine cd_condT rfl ?_
                           refine cd_seq ?_
                           refine cd_region ?_
                           refine st_val (ro_build (l := []) (CmdCode_b26_)) ?_
                           refine st_putW (vs := [_, _, _, _, _]) CmdCode_z26 rfl rfl (by simp [Value.oneCell']) ((hk2.from_ E45)) rfl ?_
                           intro w61 O10 P10
                           refine st_val (ro_assign (v := .int _ _) rfl) ?_
                           refine st_nil ?_
                           refine nx_then ?_
                           refine cd_ret ?_
                           refine rt_then ?_
                           refine rt_block ?_
                           refine rt_then ?_
                           refine rt_then ?_
                           refine rt_block ?_
                           refine rt_then ?_
                           refine resr2 rfl (rv_cellA (cs := [_, _, _, _, _]) CmdCode_g26 CmdCode_z26 rfl (by first | exact P3.whole | exact P10.whole | exact P14.whole | exact P15.whole)) (rv_tmp (v := .int _ _) rfl) ?_
                           first
                             | exact ⟨.inr ⟨fun ss2 h2 hgood => (by rw [hg14] at h2; cases h2; exact numS_no hN (hgood.2.1 j hj3)), rfl⟩, ((hB.next E45).only O10 (hg2))⟩
                             | exact ⟨.inr ⟨fun ss2 h2 hgood => (by rw [hg14] at h2; cases h2; exact numS_far hN (by omega) (hgood.2.1 j hj3)), rfl⟩, ((hB.next E45).only O10 (hg2))⟩
                      · (try first | replace Q60 := bn_t Q60 | replace Q60 := bn_f Q60)
                        (try first | replace Q60 := bx_t Q60 | replace Q60 := bx_f Q60 | replace Q60 := be_t Q60 | replace Q60 := be_f Q60 | replace Q60 := of_decide_eq_true Q60 | replace Q60 := of_decide_eq_false Q60)
                        first
                         | (exfalso; first | omega | contradiction | (cases Q60; done))
                         | skip
                           refine st_unguard rfl ?_
                           refine st_val (ro_move (v := .int _ _) rfl) ?_
                           refine st_unguard rfl ?_
                           refine st_val (ro_move (v := .slice _ _ _) rfl) ?_
                           refine st_unguard rfl ?_
                           refine st_val (ro_move (v := .int _ _) rfl) ?_
                           refine st_unguard rfl ?_
                           refine st_val (ro_indexAddr0 CmdCode_e37 rfl rfl (by omega)) ?_
                           refine st_unguard rfl ?_
                           refine st_val (ro_load CmdCode_g9 rfl (by exact strs_cell (hos.kept_from E45) j (by omega))) ?_
                           refine st_unguard rfl ?_
                           refine st_val (ro_lenS (by kernel_rfl) rfl) ?_
                           refine st_unguard rfl ?_
                           refine st_val (ro_neq rfl rfl) ?_
                           refine st_val (ro_pickF (v := .bool _) rfl rfl) ?_
                           refine st_nil ?_
                           refine nx_then ?_
                           refine cd_cond rfl (fun Q62 => ?_) (fun Q62 => ?_)
                           · (try first | replace Q62 := bn_t Q62 | replace Q62 := bn_f Q62)
                             (try first | replace Q62 := bx_t Q62 | replace Q62 := bx_f Q62 | replace Q62 := be_t Q62 | replace Q62 := be_f Q62 | replace Q62 := of_decide_eq_true Q62 | replace Q62 := of_decide_eq_false Q62)
                             first
                              | (exfalso; first | omega | contradiction | (cases Q62; done))
                              | skip
                                refine cd_seq ?_
                                refine cd_region ?_
                                refine st_val (ro_build (l := []) (CmdCode_b26_)) ?_
                                refine st_putW (vs := [_, _, _, _, _]) CmdCode_z26 rfl rfl (by simp [Value.oneCell']) ((hk2.from_ E45)) rfl ?_
                                intro w63 O10 P10
                                refine st_val (ro_assign (v := .int _ _) rfl) ?_
                                refine st_nil ?_
                                refine nx_then ?_
                                refine cd_ret ?_
                                refine rt_then ?_
                                refine rt_block ?_
                                refine rt_then ?_
                                refine rt_then ?_
                                refine rt_block ?_
                                refine rt_then ?_
                                refine resr2 rfl (rv_cellA (cs := [_, _, _, _, _]) CmdCode_g26 CmdCode_z26 rfl (by first | exact P3.whole | exact P10.whole | exact P14.whole | exact P15.whole)) (rv_tmp (v := .int _ _) rfl) ?_
                                first
                                  | exact ⟨.inr ⟨fun ss2 h2 hgood => (by rw [hg14] at h2; cases h2; exact numS_no hN (hgood.2.1 j hj3)), rfl⟩, ((hB.next E45).only O10 (hg2))⟩
                                  | exact ⟨.inr ⟨fun ss2 h2 hgood => (by rw [hg14] at h2; cases h2; exact numS_far hN (by omega) (hgood.2.1 j hj3)), rfl⟩, ((hB.next E45).only O10 (hg2))⟩
                           · (try first | replace Q62 := bn_t Q62 | replace Q62 := bn_f Q62)
                             (try first | replace Q62 := bx_t Q62 | replace Q62 := bx_f Q62 | replace Q62 := be_t Q62 | replace Q62 := be_f Q62 | replace Q62 := of_decide_eq_true Q62 | replace Q62 := of_decide_eq_false Q62)
                             have hnj : numS (sAt ss j) = some n46 := numS_is hN (by omega)
                             have hnv : nvS ss j = n46 := by unfold nvS; rw [hnj]; rfl
                             first
                              | (exfalso; first | omega | contradiction | (cases Q62; done))
                              | skip
                                refine cd_skip ?_
                                refine nx_then ?_
                                refine cd_region ?_
                                refine st_val (ro_move (v := .pointer _) rfl) ?_
                                refine st_val (ro_move (v := .int _ _) rfl) ?_
                                refine st_val (ro_nilCheck rfl) ?_
                                refine st_put (v := .int _ _) CmdCode_z3 rfl rfl rfl ((hP.from_ E45)) (by show j < 5; omega) ?_
                                intro w64 O11 P11
                                rw [← hnv, cellsP_step ss hj3] at P11
                                replace hk2 := (hk2.from_ E45).only O11 (by omega)
                                replace hos := own_only3 (hos.kept_from E45) O11 (own_off (hos.kept_from E45) (hP.from_ E45) (by decide))
                                refine st_nil ?_
                                refine nx_block ?_
                                refine nx_then ?_
                                refine cd_region ?_
                                refine st_val (ro_addN (b := 1) rfl rfl (by omega)) ?_
                                refine st_val (ro_move (v := .int _ _) rfl) ?_
                                refine st_nil ?_
                                refine nx_cut (j + 1) ⟨(by first | rfl | (refine int_eq ?_; omega)), trivial⟩ (by (iterate 71 refine agr_cons rfl ?_); exact agr_rfl) ⟨?_, ?_⟩
                                · exact ⟨by omega, fun q hq => by
                                    rcases Nat.lt_or_ge q j with a | a
                                    · exact hns q a
                                    · obtain rfl : q = j := by omega
                                      rw [hnj]; rfl, P11, hk2, hos, ((hB.next E45).only O11 (hg6.1))⟩
                                · omega
               · (try first | replace Q52 := bn_t Q52 | replace Q52 := bn_f Q52)
                 (try first | replace Q52 := bx_t Q52 | replace Q52 := bx_f Q52 | replace Q52 := be_t Q52 | replace Q52 := be_f Q52 | replace Q52 := of_decide_eq_true Q52 | replace Q52 := of_decide_eq_false Q52)
                 obtain rfl : j = 3 := by omega
                 replace hP : Blk w51 b6 26 #[.int .i64 (nvS ss 0 : Nat), .int .i64 (nvS ss 1 : Nat), .int .i64 (nvS ss 2 : Nat), .string (sAt ss 3), .string (sAt ss 4)] := hP
                 first
                  | (exfalso; first | omega | contradiction | (cases Q52; done))
                  | skip
                    refine cd_exit ?_
                    refine ex_then ?_
                    refine ex_then ?_
                    refine ex_block ?_
                    refine nx_then ?_
                    refine cd_seq ?_
                    refine cd_seq ?_
                    refine cd_region ?_
                    refine st_val (ro_loadA (cs := [_, _, _, _, _]) CmdCode_g26 CmdCode_z26 rfl (by exact (hP.from_ From.rfl_).whole)) ?_
                    refine st_call CmdCode_k13 (mcmd (nvS ss 0 : Nat) (nvS ss 1 : Nat) (nvS ss 2 : Nat) (sAt ss 3) (sAt ss 4) _ (by have := hsl 3; omega) (by have := hsl 4; omega)) ?_
                    rintro v67 w65 ⟨rfl, E67⟩
                    refine st_val (ro_neq rfl rfl) ?_
                    refine st_nil ?_
                    refine nx_then ?_
                    refine cd_cond rfl (fun Q66 => ?_) (fun Q66 => ?_)
                    · (try first | replace Q66 := bn_t Q66 | replace Q66 := bn_f Q66)
                      (try first | replace Q66 := bx_t Q66 | replace Q66 := bx_f Q66 | replace Q66 := be_t Q66 | replace Q66 := be_f Q66 | replace Q66 := of_decide_eq_true Q66 | replace Q66 := of_decide_eq_false Q66)
                      have hok : ¬ OkC (nvS ss 0 : Nat) (nvS ss 1 : Nat) (nvS ss 2 : Nat) (sAt ss 3) (sAt ss 4) := fun h => by rw [if_pos h] at Q66; exact absurd rfl Q66
                      first
                       | (exfalso; first | omega | contradiction | (cases Q66; done))
                       | skip
                         refine cd_seq ?_
                         refine cd_region ?_
                         refine st_val (ro_build (l := []) (CmdCode_b26_)) ?_
                         refine st_putW (vs := [_, _, _, _, _]) CmdCode_z26 rfl rfl (by simp [Value.oneCell']) ((hk2.from_ (From.rfl_.next E67))) rfl ?_
                         intro w67 O14 P14
                         refine st_val (ro_assign (v := .int _ _) rfl) ?_
                         refine st_nil ?_
                         refine nx_then ?_
                         refine cd_ret ?_
                         refine rt_then ?_
                         refine resr2 rfl (rv_cellA (cs := [_, _, _, _, _]) CmdCode_g26 CmdCode_z26 rfl (by first | exact P3.whole | exact P10.whole | exact P14.whole | exact P15.whole)) (rv_tmp (v := .int _ _) rfl) ?_
                         exact ⟨.inr ⟨fun ss2 h2 hgood => (by rw [hg14] at h2; cases h2; exact hok hgood.2.2), rfl⟩, ((hB.next E67).only O14 (hg2))⟩
                    · (try first | replace Q66 := bn_t Q66 | replace Q66 := bn_f Q66)
                      (try first | replace Q66 := bx_t Q66 | replace Q66 := bx_f Q66 | replace Q66 := be_t Q66 | replace Q66 := be_f Q66 | replace Q66 := of_decide_eq_true Q66 | replace Q66 := of_decide_eq_false Q66)
                      have hok : OkC (nvS ss 0 : Nat) (nvS ss 1 : Nat) (nvS ss 2 : Nat) (sAt ss 3) (sAt ss 4) := Classical.byContradiction fun h => by rw [if_neg h] at Q66; omega
                      first
                       | (exfalso; first | omega | contradiction | (cases Q66; done))
                       | skip
                         refine cd_skip ?_
                         refine nx_then ?_
                         refine cd_seq ?_
                         refine cd_region ?_
                         refine st_val (ro_loadA (cs := [_, _, _, _, _]) CmdCode_g26 CmdCode_z26 rfl (by exact (hP.from_ (From.rfl_.next E67)).whole)) ?_
                         refine st_putW (vs := [_, _, _, _, _]) CmdCode_z26 rfl rfl (by simp [Value.oneCell']) ((hk2.from_ (From.rfl_.next E67))) rfl ?_
                         intro w68 O15 P15
                         refine st_val (ro_assign (v := .int _ _) rfl) ?_
                         refine st_nil ?_
                         refine nx_then ?_
                         refine cd_ret ?_
                         refine resr2 rfl (rv_cellA (cs := [_, _, _, _, _]) CmdCode_g26 CmdCode_z26 rfl (by first | exact P3.whole | exact P10.whole | exact P14.whole | exact P15.whole)) (rv_tmp (v := .int _ _) rfl) ?_
                         exact ⟨.inl ⟨ss, hg14, ⟨h5, hns, hok⟩, rfl⟩, ((hB.next E67).only O15 (hg2))⟩
end Go.Proofs.Ythacjhdodjgojaa
