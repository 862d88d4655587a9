/- The law CommandAny: any bytes are a command, which is told by just these bytes, or none. -/
import Derived.Test.YthacjhdodjgojaaCmdCode
import Derived.Test.YthacjhdodjgojaaAtRow
namespace Go.Proofs.Ythacjhdodjgojaa
open Go.RowKit
open Go.ChangeShapes Go.WideShapes Go.ChangeAt
theorem CmdAny_b26_0cinti641 : Try.prog.built 26 [(0, .int .i64 1)] = some #[.int .i64 1, .int .i64 0, .int .i64 0, .string ⟨#[]⟩, .string ⟨#[]⟩] := by kernel_rfl
theorem CmdAny_k8 : callable Try.prog 8 = true := by kernel_rfl
theorem CmdAny_k5 : callable Try.prog 5 = true := by kernel_rfl
theorem CmdAny_o26 : zeroQ Try.prog 26 = some (.agg #[.int .i64 0, .int .i64 0, .int .i64 0, .string ⟨#[]⟩, .string ⟨#[]⟩]) := by kernel_rfl
theorem CmdAny_z26 : sizeQ Try.prog 26 = some 5 := by kernel_rfl
theorem CmdAny_k7 : callable Try.prog 7 = true := by kernel_rfl
theorem CmdAny_f26_0 : fieldQ Try.prog 26 0 = some 0 := by kernel_rfl
theorem CmdAny_g3 : aggQ Try.prog 3 = some false := by kernel_rfl
theorem CmdAny_l22 : (elemQ Try.prog 22).isSome = true := by kernel_rfl
theorem CmdAny_e22 : elemQ Try.prog 22 = some (23, 1) := by kernel_rfl
theorem CmdAny_g23 : aggQ Try.prog 23 = some false := by kernel_rfl
theorem CmdAny_l23 : (elemQ Try.prog 23).isSome = true := by kernel_rfl
theorem CmdAny_k4 : callable Try.prog 4 = true := by kernel_rfl
theorem CmdAny_k6 : callable Try.prog 6 = true := by kernel_rfl
theorem CmdAny_g26 : aggQ Try.prog 26 = some true := by kernel_rfl
theorem CmdAny_b26_ : Try.prog.built 26 [] = some #[.int .i64 0, .int .i64 0, .int .i64 0, .string ⟨#[]⟩, .string ⟨#[]⟩] := by kernel_rfl
theorem CmdAny_k9 : callable Try.prog 9 = true := by kernel_rfl
theorem CmdAny_k10 : callable Try.prog 10 = true := by kernel_rfl
theorem encL_byte : ∀ {ts : List ByteArray}, (∀ s ∈ ts, s.size ≤ 9223372036854775807) → ∀ b ∈ encL ts, b < 256
  | [], _, b, h => by simp [encL] at h
  | x :: r, hs, b, h => by
    rw [encL, encS] at h
    rcases List.mem_append.1 h with h | h
    · rcases List.mem_append.1 h with h | h
      · exact nums_byte9 (hs x (.head _)) b h
      · exact strB_lt x b h
    · exact encL_byte (fun s h => hs s (.tail _ h)) b h
theorem putB_byte {ts : List ByteArray} (hl : ts.length ≤ 9223372036854775807) (hs : ∀ s ∈ ts, s.size ≤ 9223372036854775807) : ∀ b ∈ putB ts, b < 256 := by
  intro b hb
  rw [putB] at hb
  rcases List.mem_append.1 hb with h | h
  · exact nums_byte9 hl b h
  · exact encL_byte hs b h
theorem putB_fit {k c s : Nat} {i t : ByteArray} (hk : k ≤ 9223372036854775807) (hc : c ≤ 9223372036854775807) (hs : s ≤ 9223372036854775807) (hi : i.size ≤ 2048) (ht : t.size ≤ 2048) : (putB (tsC k c s i t)).length ≤ 1048576 := by
  have h1 := nums_len9 hk
  have h2 := nums_len9 hc
  have h3 := nums_len9 hs
  have e : putB (tsC k c s i t) = nums 5 ++ (encS (strOf (nums k)) ++ (encS (strOf (nums c)) ++ (encS (strOf (nums s)) ++ (encS i ++ (encS t ++ []))))) := rfl
  rw [e]
  simp only [List.length_append, encS_length, strOf_size, List.length_nil]
  have a0 := nums_len9 (show 5 ≤ 9223372036854775807 by omega)
  have a1 := nums_len9 (show (nums k).length ≤ 9223372036854775807 by omega)
  have a2 := nums_len9 (show (nums c).length ≤ 9223372036854775807 by omega)
  have a3 := nums_len9 (show (nums s).length ≤ 9223372036854775807 by omega)
  have a4 := nums_len9 (show i.size ≤ 9223372036854775807 by omega)
  have a5 := nums_len9 (show t.size ≤ 9223372036854775807 by omega)
  omega
theorem okW : OkC (1 : Nat) (0 : Nat) (0 : Nat) ⟨#[]⟩ ⟨#[]⟩ := .inl ⟨rfl, rfl, rfl, rfl, rfl⟩
def bW : List Nat := putB (tsC 1 0 0 ⟨#[]⟩ ⟨#[]⟩)
theorem bW_fit : bW.length ≤ 1048576 := putB_fit (by omega) (by omega) (by omega) (Nat.zero_le _) (Nat.zero_le _)
theorem bW_size : ∀ s ∈ tsC 1 0 0 ⟨#[]⟩ ⟨#[]⟩, s.size ≤ 140737488351232 := fun s hs => by
  have := putB_mem hs
  have := bW_fit
  unfold bW at this
  omega
theorem bW_byte : ∀ b ∈ bW, b < 256 := putB_byte (by decide) fun s hs => by have := bW_size s hs; omega
theorem bW_get : getB bW = some (tsC 1 0 0 ⟨#[]⟩ ⟨#[]⟩) := getB_putB bW_size bW_fit
theorem bytes_w (w : World) : Rt Try.prog 8 [cmdV 1 0 0 ⟨#[]⟩ ⟨#[]⟩] w fun v w' => (∃ A c', v = .tuple #[.slice A bW.length c', .int .i64 0] ∧ RowC w' (.slice A bW.length c') (bytesV bW)) ∧ From w w' :=
  bytes_ok 1 0 0 ⟨#[]⟩ ⟨#[]⟩ w (by omega) (by omega) (by omega) okW bW_fit
theorem parse_w (A : Option Addr) (c n : Nat) (w : World) (hr : RowC w (.slice A n c) (bytesV bW)) : Rt Try.prog 5 [.slice A n c] w fun v w' => (∃ c2 s2 i2 t2, v = .tuple #[cmdV 1 c2 s2 i2 t2, .int .i64 0]) ∧ From w w' := by
  refine (parse_any A c n bW bW_byte w hr).mono fun v w' ⟨h, hF⟩ => ⟨?_, hF⟩
  obtain ⟨hg, h0, _, _⟩ := good_of (k := 1) (c := 0) (s := 0) (i := ⟨#[]⟩) (t := ⟨#[]⟩) (by omega) (by omega) (by omega) okW
  rcases h with ⟨ss, h1, _, rfl⟩ | ⟨h1, _⟩
  · rw [bW_get] at h1
    cases h1
    rw [h0]
    exact ⟨_, _, _, _, rfl⟩
  · exact absurd hg (h1 _ bW_get)
theorem eq_same (A B : Option Addr) (ca cb n : Nat) (l : List Nat) (w : World) (hn : n = l.length) (ha : RowOf bV w A l) (hb : RowOf bV w B l) (hl : l.length ≤ 140737488351232) : Rt Try.prog 6 [.slice A n ca, .slice B l.length cb] w fun v w' => v = .bool true ∧ From w w' := by
  subst hn
  refine (eqBytes_any A B ca cb l l w ha hb (by omega)).mono fun v w' h => ⟨?_, h.2⟩
  rw [h.1, decide_eq_true rfl]
theorem bytes_l {l : List Nat} {ss : List ByteArray} (hb : ∀ b ∈ l, b < 256) (h : getB l = some ss) (hg : goodC ss) (w : World) : Rt Try.prog 8 [cmdV (nvS ss 0 : Nat) (nvS ss 1 : Nat) (nvS ss 2 : Nat) (sAt ss 3) (sAt ss 4)] w fun v w' => (∃ A c', v = .tuple #[.slice A l.length c', .int .i64 0] ∧ RowOf bV w' A l) ∧ From w w' := by
  obtain ⟨h1, h2⟩ := good_back hb h hg
  have h3 := (getB_back hb h).2
  have := bytes_ok (nvS ss 0) (nvS ss 1) (nvS ss 2) (sAt ss 3) (sAt ss 4) w (h2 0 (by omega)) (h2 1 (by omega)) (h2 2 (by omega)) hg.2.2 (by rw [h1]; exact h3)
  rw [h1] at this
  exact this.mono fun v w' ⟨⟨A, c', e, hr⟩, hF⟩ => ⟨⟨A, c', e, (RowOf.of_row (f := bV) hr.1).2⟩, hF⟩
theorem rcmd_ok (k c s : Int) (i t : ByteArray) (w : World) (hi : i.size ≤ 140737488351232) (ht : t.size ≤ 140737488351232) (ho : OkC k c s i t) : Rt Try.prog 9 [cmdV k c s i t] w fun v w' => v = .bool true ∧ From w w' :=
  (rcmd k c s i t w hi ht).mono fun v w' h => ⟨by rw [h.1, decide_eq_true ho], h.2⟩
set_option maxRecDepth 100000 in
set_option maxHeartbeats 400000 in
theorem wakes_any (w : World) :
    Rt Try.prog 10 [] w (fun v w' => v = .bool true ∧ From w w') := by
  refine enter (n := 28) Try.func10 rfl rfl rfl ?_
  refine cd_seq ?_
  refine cd_region ?_
  refine st_val (ro_assign (v := .bool _) rfl) ?_
  refine st_nil ?_
  refine nx_then ?_
  refine cd_seq ?_
  refine cd_region ?_
  refine st_val (ro_build (l := [(0, .const (.int .i64 1))]) (CmdAny_b26_0cinti641)) ?_
  refine st_call CmdAny_k8 (bytes_w _) ?_
  rintro v7 w1 ⟨⟨A7, c7, rfl, hr7⟩, E7⟩
  refine st_val (ro_move (v := .tuple _) rfl) ?_
  refine st_val (ro_extract rfl rfl) ?_
  refine st_val (ro_extract rfl rfl) ?_
  refine st_val (ro_assign (v := .slice _ _ _) rfl) ?_
  refine st_val (ro_assign (v := .int _ _) rfl) ?_
  refine st_nil ?_
  refine nx_then ?_
  refine cd_seq ?_
  refine cd_region ?_
  refine st_val (ro_move (v := .slice _ _ _) rfl) ?_
  refine st_call CmdAny_k5 (parse_w A7 c7 _ _ hr7) ?_
  rintro v12 w2 ⟨⟨c2, s2, i2, t2, rfl⟩, E12⟩
  refine st_val (ro_move (v := .tuple _) rfl) ?_
  refine st_val (ro_extract rfl rfl) ?_
  refine st_val (ro_extract rfl rfl) ?_
  refine st_alloc CmdAny_o26 ?_
  intro b3 w3 E3 hb3 hk3
  have hg3 : w.heap.size ≤ b3 := by rw [hb3]; exact (((From.rfl_.next E7).next E12)).size
  refine st_putW (vs := [_, _, _, _, _]) CmdAny_z26 rfl rfl (by simp [Value.oneCell']) (hk3) rfl ?_
  intro w4 O2 P2
  refine st_val (ro_assign (v := .int _ _) rfl) ?_
  refine st_nil ?_
  refine nx_then ?_
  refine cd_seq ?_
  refine cd_region ?_
  refine st_val (ro_move (v := .int _ _) rfl) ?_
  refine st_call CmdAny_k7 (lnum_any _ _) ?_
  rintro v16 w5 ⟨rfl, rfl⟩
  refine st_val (ro_eql rfl rfl) ?_
  refine st_val (ro_move (v := .bool _) rfl) ?_
  refine st_split (t := 18) rfl (fun Q6 => ?_) (fun Q6 => ?_)
  · (try first | replace Q6 := bn_t Q6 | replace Q6 := bn_f Q6)
    (try first | replace Q6 := bx_t Q6 | replace Q6 := bx_f Q6 | replace Q6 := be_t Q6 | replace Q6 := be_f Q6 | replace Q6 := of_decide_eq_true Q6 | replace Q6 := of_decide_eq_false Q6)
    first
     | (exfalso; first | omega | contradiction | (cases Q6; done))
     | skip
       refine st_unguard rfl ?_
       refine st_val (ro_move (v := .int _ _) rfl) ?_
       refine st_unguard rfl ?_
       refine st_call CmdAny_k7 (lnum_any _ _) ?_
       rintro v20 w7 ⟨rfl, rfl⟩
       refine st_unguard rfl ?_
       refine st_val (ro_eql rfl rfl) ?_
       refine st_val (ro_pickT (v := .bool _) rfl rfl) ?_
       refine st_val (ro_move (v := .bool _) rfl) ?_
       refine st_split (t := 23) rfl (fun Q8 => ?_) (fun Q8 => ?_)
       · (try first | replace Q8 := bn_t Q8 | replace Q8 := bn_f Q8)
         (try first | replace Q8 := bx_t Q8 | replace Q8 := bx_f Q8 | replace Q8 := be_t Q8 | replace Q8 := be_f Q8 | replace Q8 := of_decide_eq_true Q8 | replace Q8 := of_decide_eq_false Q8)
         first
          | (exfalso; first | omega | contradiction | (cases Q8; done))
          | skip
            refine st_unguard rfl ?_
            refine st_val (ro_fieldAddr CmdAny_f26_0 rfl) ?_
            refine st_unguard rfl ?_
            refine st_val (ro_load CmdAny_g3 rfl (by exact P2.rd 0 rfl)) ?_
            refine st_unguard rfl ?_
            refine st_val (ro_eql rfl rfl) ?_
            refine st_val (ro_pickT (v := .bool _) rfl rfl) ?_
            refine st_val (ro_assign (v := .bool _) rfl) ?_
            refine st_nil ?_
            refine nx_then ?_
            refine cd_ret ?_
            refine res1 (v := .bool _) rfl rfl ?_
            exact ⟨rfl, ((((From.rfl_.next E7).next E12).next E3).only O2 (hg3))⟩
       · (try first | replace Q8 := bn_t Q8 | replace Q8 := bn_f Q8)
         (try first | replace Q8 := bx_t Q8 | replace Q8 := bx_f Q8 | replace Q8 := be_t Q8 | replace Q8 := be_f Q8 | replace Q8 := of_decide_eq_true Q8 | replace Q8 := of_decide_eq_false Q8)
         first
          | (exfalso; first | omega | contradiction | (cases Q8; done))
          | skip
            refine st_gno rfl rfl ?_
            refine st_gno rfl rfl ?_
            refine st_gno rfl rfl ?_
            refine st_val (ro_pickF (v := .bool _) rfl rfl) ?_
            refine st_val (ro_assign (v := .bool _) rfl) ?_
            refine st_nil ?_
            refine nx_then ?_
            refine cd_ret ?_
            refine res1 (v := .bool _) rfl rfl ?_
            exact ⟨rfl, ((((From.rfl_.next E7).next E12).next E3).only O2 (hg3))⟩
  · (try first | replace Q6 := bn_t Q6 | replace Q6 := bn_f Q6)
    (try first | replace Q6 := bx_t Q6 | replace Q6 := bx_f Q6 | replace Q6 := be_t Q6 | replace Q6 := be_f Q6 | replace Q6 := of_decide_eq_true Q6 | replace Q6 := of_decide_eq_false Q6)
    first
     | (exfalso; first | omega | contradiction | (cases Q6; done))
     | skip
       refine st_gno rfl rfl ?_
       refine st_gno rfl rfl ?_
       refine st_gno rfl rfl ?_
       refine st_val (ro_pickF (v := .bool _) rfl rfl) ?_
       refine st_val (ro_move (v := .bool _) rfl) ?_
       refine st_gno rfl rfl ?_
       refine st_gno rfl rfl ?_
       refine st_gno rfl rfl ?_
       refine st_val (ro_pickF (v := .bool _) rfl rfl) ?_
       refine st_val (ro_assign (v := .bool _) rfl) ?_
       refine st_nil ?_
       refine nx_then ?_
       refine cd_ret ?_
       refine res1 (v := .bool _) rfl rfl ?_
       exact ⟨rfl, ((((From.rfl_.next E7).next E12).next E3).only O2 (hg3))⟩
set_option maxRecDepth 100000 in
set_option maxHeartbeats 2000000 in
theorem any_law (A : Option Addr) (c : Nat) (xs : List (Ty.sl (.int .u8)).den) (w : World) (hlen : xs.length * (Ty.sl (.int .u8)).bytes ≤ 140737488351232) (hx : 0 < xs.length → ∃ b o, A = some ⟨b, o, none⟩ ∧ ∀ (i : Nat) (hi : i < xs.length), (Ty.sl (.int .u8)).At w (fun j => w.cell? ⟨b, o + i * (Ty.sl (.int .u8)).size + j, none⟩) xs[i]) :
    Rt Try.prog 3 [.slice A xs.length c] w (fun v w' => v = .bool true ∧ From w w') := by
  refine enter (n := 84) Try.func3 rfl rfl rfl ?_
  refine cd_seq ?_
  refine cd_region ?_
  refine st_val (ro_assign (v := .bool _) rfl) ?_
  refine st_nil ?_
  refine nx_then ?_
  refine cd_seq ?_
  refine cd_seq ?_
  refine cd_region ?_
  refine st_val (ro_assign (v := .int _ _) rfl) ?_
  refine st_nil ?_
  refine nx_then ?_
  refine cd_block ?_
  refine cd_loop (G := Nat) [2, 4, 5, 6, 7, 8, 9, 10, 11, 12, 13, 14, 15, 16, 17, 18, 19, 20, 21, 22, 23, 24, 25, 26, 27, 28, 29, 30, 31, 32, 33, 34, 35, 36, 37, 38, 39, 40, 41, 42, 43, 44, 45, 46, 47, 48, 49, 50, 51, 52, 53, 54, 55, 56, 57, 58, 59, 60, 61, 62, 63, 64, 65, 66, 67, 68, 69, 70, 71, 72, 73, 74, 75, 76, 77, 78, 79, 80, 81, 82] (fun i => [(3, .int .i64 (i : Nat))]) (fun i w' => i ≤ 20 ∧ From w w') (fun i => 20 - i) (0) ⟨rfl, trivial⟩ ?_ ?_
  · exact ⟨Nat.zero_le _, From.rfl_⟩
  rintro i ρ1 w1 ⟨hi, hB⟩
  refine cd_seq ?_
  refine cd_seq ?_
  refine cd_region ?_
  refine st_val (ro_move (v := .int _ _) rfl) ?_
  refine st_val (ro_move (v := .slice _ _ _) rfl) ?_
  refine st_val (ro_len CmdAny_l22 rfl) ?_
  refine st_val (ro_lss rfl rfl) ?_
  refine st_val (ro_move (v := .bool _) rfl) ?_
  refine st_split (t := 13) rfl (fun Q2 => ?_) (fun Q2 => ?_)
  · (try first | replace Q2 := bn_t Q2 | replace Q2 := bn_f Q2)
    (try first | replace Q2 := bx_t Q2 | replace Q2 := bx_f Q2 | replace Q2 := be_t Q2 | replace Q2 := be_f Q2 | replace Q2 := of_decide_eq_true Q2 | replace Q2 := of_decide_eq_false Q2)
    first
     | (exfalso; first | omega | contradiction | (cases Q2; done))
     | skip
       refine st_unguard rfl ?_
       refine st_val (ro_move (v := .int _ _) rfl) ?_
       refine st_unguard rfl ?_
       refine st_val (ro_lss rfl rfl) ?_
       refine st_val (ro_pickT (v := .bool _) rfl rfl) ?_
       refine st_nil ?_
       refine nx_then ?_
       refine cd_cond rfl (fun Q3 => ?_) (fun Q3 => ?_)
       · (try first | replace Q3 := bn_t Q3 | replace Q3 := bn_f Q3)
         (try first | replace Q3 := bx_t Q3 | replace Q3 := bx_f Q3 | replace Q3 := be_t Q3 | replace Q3 := be_f Q3 | replace Q3 := of_decide_eq_true Q3 | replace Q3 := of_decide_eq_false Q3)
         have hil : i < xs.length := by omega
         obtain ⟨b, o, hA, hat⟩ := hx (by omega)
         subst hA
         obtain ⟨Ai, ci, li, hci, hri, hbi, hli, hcap⟩ := at_bytes' (hat i hil)
         have hcell : w.cell? ⟨b, o + i, none⟩ = some (.slice Ai li.length ci) := by simpa [Ty.size] using hci
         first
          | (exfalso; first | omega | contradiction | (cases Q3; done))
          | skip
            refine cd_skip ?_
            refine nx_then ?_
            refine cd_seq ?_
            refine cd_block ?_
            refine cd_seq ?_
            refine cd_seq ?_
            refine cd_region ?_
            refine st_val (ro_move (v := .slice _ _ _) rfl) ?_
            refine st_val (ro_move (v := .int _ _) rfl) ?_
            refine st_val (ro_indexAddr1 CmdAny_e22 rfl rfl (by omega)) ?_
            refine st_val (ro_load CmdAny_g23 rfl (by exact cellF hB hcell)) ?_
            refine st_val (ro_len CmdAny_l23 rfl) ?_
            refine st_val (ro_gtr rfl rfl) ?_
            refine st_nil ?_
            refine nx_then ?_
            refine cd_cond rfl (fun Q4 => ?_) (fun Q4 => ?_)
            · (try first | replace Q4 := bn_t Q4 | replace Q4 := bn_f Q4)
              (try first | replace Q4 := bx_t Q4 | replace Q4 := bx_f Q4 | replace Q4 := be_t Q4 | replace Q4 := be_f Q4 | replace Q4 := of_decide_eq_true Q4 | replace Q4 := of_decide_eq_false Q4)
              first
               | (exfalso; first | omega | contradiction | (cases Q4; done))
               | skip
                 refine cd_seq ?_
                 refine cd_region ?_
                 refine st_val (ro_assign (v := .bool _) rfl) ?_
                 refine st_nil ?_
                 refine nx_then ?_
                 refine cd_ret ?_
                 refine rt_then ?_
                 refine rt_block ?_
                 refine rt_then ?_
                 refine rt_then ?_
                 refine rt_block ?_
                 refine rt_then ?_
                 refine res1 (v := .bool _) rfl rfl ?_
                 exact ⟨rfl, hB⟩
            · (try first | replace Q4 := bn_t Q4 | replace Q4 := bn_f Q4)
              (try first | replace Q4 := bx_t Q4 | replace Q4 := bx_f Q4 | replace Q4 := be_t Q4 | replace Q4 := be_f Q4 | replace Q4 := of_decide_eq_true Q4 | replace Q4 := of_decide_eq_false Q4)
              first
               | (exfalso; first | omega | contradiction | (cases Q4; done))
               | skip
                 refine cd_skip ?_
                 refine nx_then ?_
                 refine cd_seq ?_
                 refine cd_region ?_
                 refine st_val (ro_move (v := .slice _ _ _) rfl) ?_
                 refine st_val (ro_move (v := .int _ _) rfl) ?_
                 refine st_val (ro_indexAddr1 CmdAny_e22 rfl rfl (by omega)) ?_
                 refine st_val (ro_load CmdAny_g23 rfl (by exact cellF hB hcell)) ?_
                 refine st_call CmdAny_k4 (copyBytes_any Ai ci li _ (hri.from_ hB) (by omega)) ?_
                 rintro v29 w5 ⟨A29, c29, rfl, ho29, E29⟩
                 refine st_val (ro_assign (v := .slice _ _ _) rfl) ?_
                 refine st_nil ?_
                 refine nx_then ?_
                 refine cd_seq ?_
                 refine cd_region ?_
                 refine st_val (ro_move (v := .slice _ _ _) rfl) ?_
                 refine st_call CmdAny_k5 (parse_any A29 c29 _ li hbi _ (RowC.of_own ho29)) ?_
                 rintro v32 w6 ⟨hp32, E32⟩
                 rcases hp32 with ⟨ss, hg, hgood, rfl⟩ | ⟨hno, rfl⟩
                 · have hsl := sAt_le hbi hg
                   refine st_val (ro_move (v := .tuple _) rfl) ?_
                   refine st_val (ro_extract rfl rfl) ?_
                   refine st_val (ro_extract rfl rfl) ?_
                   refine st_alloc CmdAny_o26 ?_
                   intro b5 w7 E5 hb5 hk5
                   have hg5 : w.heap.size ≤ b5 := by rw [hb5]; exact (((hB.next E29).next E32)).size
                   refine st_putW (vs := [_, _, _, _, _]) CmdAny_z26 rfl rfl (by simp [Value.oneCell']) (hk5) rfl ?_
                   intro w8 O7 P7
                   replace ho29 := own_only3 (ho29.kept_from (E32.next E5)) O7 (own_off (ho29.kept_from (E32.next E5)) hk5 (by decide))
                   refine st_val (ro_assign (v := .int _ _) rfl) ?_
                   refine st_nil ?_
                   refine nx_then ?_
                   refine cd_seq ?_
                   refine cd_seq ?_
                   refine cd_region ?_
                   refine st_val (ro_move (v := .slice _ _ _) rfl) ?_
                   refine st_val (ro_move (v := .slice _ _ _) rfl) ?_
                   refine st_val (ro_move (v := .int _ _) rfl) ?_
                   refine st_val (ro_indexAddr1 CmdAny_e22 rfl rfl (by omega)) ?_
                   refine st_val (ro_load CmdAny_g23 rfl (by exact cellF ((((hB.next E29).next E32).next E5).only O7 (hg5)) hcell)) ?_
                   refine st_call CmdAny_k6 (eq_same A29 Ai c29 ci _ li _ rfl (RowOf.of_row (f := bV) (RowC.of_own ho29).1).2 (hri.from_ ((((hB.next E29).next E32).next E5).only O7 (hg5))) hli) ?_
                   rintro v40 w9 ⟨rfl, E40⟩
                   refine st_val (ro_not rfl) ?_
                   refine st_val (ro_move (v := .bool _) rfl) ?_
                   refine st_split (t := 42) rfl (fun Q10 => ?_) (fun Q10 => ?_)
                   · (try first | replace Q10 := bn_t Q10 | replace Q10 := bn_f Q10)
                     (try first | replace Q10 := bx_t Q10 | replace Q10 := bx_f Q10 | replace Q10 := be_t Q10 | replace Q10 := be_f Q10 | replace Q10 := of_decide_eq_true Q10 | replace Q10 := of_decide_eq_false Q10)
                     first
                      | (exfalso; first | omega | contradiction | (cases Q10; done))
                      | skip
                        refine st_gno rfl rfl ?_
                        refine st_gno rfl rfl ?_
                        refine st_gno rfl rfl ?_
                        refine st_gno rfl rfl ?_
                        refine st_gund rfl ?_
                        refine st_gund rfl ?_
                        refine st_gund rfl ?_
                        refine st_gund rfl ?_
                        refine st_gund rfl ?_
                        refine st_gund rfl ?_
                        refine st_gund rfl ?_
                        refine st_gund rfl ?_
                        refine st_gund rfl ?_
                        refine st_gno rfl rfl ?_
                        refine st_val (ro_pickT (v := .bool _) rfl rfl) ?_
                        refine st_nil ?_
                        refine nx_then ?_
                        refine cd_condT rfl ?_
                        refine cd_seq ?_
                        refine cd_region ?_
                        refine st_val (ro_assign (v := .bool _) rfl) ?_
                        refine st_nil ?_
                        refine nx_then ?_
                        refine cd_ret ?_
                        refine rt_then ?_
                        refine rt_block ?_
                        refine rt_then ?_
                        refine rt_then ?_
                        refine rt_block ?_
                        refine rt_then ?_
                        refine res1 (v := .bool _) rfl rfl ?_
                        exact ⟨rfl, (((((hB.next E29).next E32).next E5).only O7 (hg5)).next E40)⟩
                   · (try first | replace Q10 := bn_t Q10 | replace Q10 := bn_f Q10)
                     (try first | replace Q10 := bx_t Q10 | replace Q10 := bx_f Q10 | replace Q10 := be_t Q10 | replace Q10 := be_f Q10 | replace Q10 := of_decide_eq_true Q10 | replace Q10 := of_decide_eq_false Q10)
                     first
                      | (exfalso; first | omega | contradiction | (cases Q10; done))
                      | skip
                        refine st_unguard rfl ?_
                        refine st_val (ro_move (v := .int _ _) rfl) ?_
                        refine st_unguard rfl ?_
                        refine st_call CmdAny_k7 (lnum_any _ _) ?_
                        rintro v44 w11 ⟨rfl, rfl⟩
                        refine st_unguard rfl ?_
                        refine st_val (ro_neq rfl rfl) ?_
                        refine st_unguard rfl ?_
                        refine st_val (ro_move (v := .bool _) rfl) ?_
                        refine st_split (t := 46) rfl (fun Q12 => ?_) (fun Q12 => ?_)
                        · (try first | replace Q12 := bn_t Q12 | replace Q12 := bn_f Q12)
                          (try first | replace Q12 := bx_t Q12 | replace Q12 := bx_f Q12 | replace Q12 := be_t Q12 | replace Q12 := be_f Q12 | replace Q12 := of_decide_eq_true Q12 | replace Q12 := of_decide_eq_false Q12)
                          first
                           | (exfalso; first | omega | contradiction | (cases Q12; done))
                           | skip
                             refine st_unguard rfl ?_
                             refine st_val (ro_move (v := .int _ _) rfl) ?_
                             refine st_unguard rfl ?_
                             refine st_call CmdAny_k7 (lnum_any _ _) ?_
                             rintro v48 w13 ⟨rfl, rfl⟩
                             refine st_unguard rfl ?_
                             refine st_val (ro_neq rfl rfl) ?_
                             refine st_unguard rfl ?_
                             refine st_val (ro_move (v := .bool _) rfl) ?_
                             refine st_split (t := 50) rfl (fun Q14 => ?_) (fun Q14 => ?_)
                             · (try first | replace Q14 := bn_t Q14 | replace Q14 := bn_f Q14)
                               (try first | replace Q14 := bx_t Q14 | replace Q14 := bx_f Q14 | replace Q14 := be_t Q14 | replace Q14 := be_f Q14 | replace Q14 := of_decide_eq_true Q14 | replace Q14 := of_decide_eq_false Q14)
                               first
                                | (exfalso; first | omega | contradiction | (cases Q14; done))
                                | skip
                                  refine st_gno rfl rfl ?_
                                  refine st_gno rfl rfl ?_
                                  refine st_gno rfl rfl ?_
                                  refine st_gno rfl rfl ?_
                                  refine st_unguard rfl ?_
                                  refine st_val (ro_pickT (v := .bool _) rfl rfl) ?_
                                  refine st_unguard rfl ?_
                                  refine st_val (ro_pickT (v := .bool _) rfl rfl) ?_
                                  refine st_val (ro_pickF (v := .bool _) rfl rfl) ?_
                                  refine st_nil ?_
                                  refine nx_then ?_
                                  refine cd_condT rfl ?_
                                  refine cd_seq ?_
                                  refine cd_region ?_
                                  refine st_val (ro_assign (v := .bool _) rfl) ?_
                                  refine st_nil ?_
                                  refine nx_then ?_
                                  refine cd_ret ?_
                                  refine rt_then ?_
                                  refine rt_block ?_
                                  refine rt_then ?_
                                  refine rt_then ?_
                                  refine rt_block ?_
                                  refine rt_then ?_
                                  refine res1 (v := .bool _) rfl rfl ?_
                                  exact ⟨rfl, (((((hB.next E29).next E32).next E5).only O7 (hg5)).next E40)⟩
                             · (try first | replace Q14 := bn_t Q14 | replace Q14 := bn_f Q14)
                               (try first | replace Q14 := bx_t Q14 | replace Q14 := bx_f Q14 | replace Q14 := be_t Q14 | replace Q14 := be_f Q14 | replace Q14 := of_decide_eq_true Q14 | replace Q14 := of_decide_eq_false Q14)
                               first
                                | (exfalso; first | omega | contradiction | (cases Q14; done))
                                | skip
                                  refine st_unguard rfl ?_
                                  refine st_val (ro_loadA (cs := [_, _, _, _, _]) CmdAny_g26 CmdAny_z26 rfl (by exact (P7.from_ (From.rfl_.next E40)).whole)) ?_
                                  refine st_unguard rfl ?_
                                  refine st_val (ro_build (l := []) (CmdAny_b26_)) ?_
                                  refine st_unguard rfl ?_
                                  refine st_val (ro_eq (ro_eqlCmd rfl rfl) (congrArg Value.bool (decide_eq_true ⟨rfl, rfl, rfl, rfl, rfl⟩))) ?_
                                  refine st_unguard rfl ?_
                                  refine st_val (ro_not rfl) ?_
                                  refine st_unguard rfl ?_
                                  refine st_val (ro_pickF (v := .bool _) rfl rfl) ?_
                                  refine st_unguard rfl ?_
                                  refine st_val (ro_pickT (v := .bool _) rfl rfl) ?_
                                  refine st_val (ro_pickF (v := .bool _) rfl rfl) ?_
                                  refine st_nil ?_
                                  refine nx_then ?_
                                  refine cd_cond rfl (fun Q15 => ?_) (fun Q15 => ?_)
                                  · (try first | replace Q15 := bn_t Q15 | replace Q15 := bn_f Q15)
                                    (try first | replace Q15 := bx_t Q15 | replace Q15 := bx_f Q15 | replace Q15 := be_t Q15 | replace Q15 := be_f Q15 | replace Q15 := of_decide_eq_true Q15 | replace Q15 := of_decide_eq_false Q15)
                                    first
                                     | (exfalso; first | omega | contradiction | (cases Q15; done))
                                     | skip
                                       refine cd_seq ?_
                                       refine cd_region ?_
                                       refine st_val (ro_assign (v := .bool _) rfl) ?_
                                       refine st_nil ?_
                                       refine nx_then ?_
                                       refine cd_ret ?_
                                       refine rt_then ?_
                                       refine rt_block ?_
                                       refine rt_then ?_
                                       refine rt_then ?_
                                       refine rt_block ?_
                                       refine rt_then ?_
                                       refine res1 (v := .bool _) rfl rfl ?_
                                       exact ⟨rfl, (((((hB.next E29).next E32).next E5).only O7 (hg5)).next E40)⟩
                                  · (try first | replace Q15 := bn_t Q15 | replace Q15 := bn_f Q15)
                                    (try first | replace Q15 := bx_t Q15 | replace Q15 := bx_f Q15 | replace Q15 := be_t Q15 | replace Q15 := be_f Q15 | replace Q15 := of_decide_eq_true Q15 | replace Q15 := of_decide_eq_false Q15)
                                    first
                                     | (exfalso; first | omega | contradiction | (cases Q15; done))
                                     | skip
                                       refine cd_skip ?_
                                       refine nx_then ?_
                                       refine cd_seq ?_
                                       refine cd_region ?_
                                       refine st_val (ro_move (v := .int _ _) rfl) ?_
                                       refine st_call CmdAny_k7 (lnum_any _ _) ?_
                                       rintro v59 w16 ⟨rfl, rfl⟩
                                       refine st_val (ro_eql rfl rfl) ?_
                                       refine st_nil ?_
                                       refine nx_then ?_
                                       refine cd_cond rfl (fun Q17 => ?_) (fun Q17 => ?_)
                                       · (try first | replace Q17 := bn_t Q17 | replace Q17 := bn_f Q17)
                                         (try first | replace Q17 := bx_t Q17 | replace Q17 := bx_f Q17 | replace Q17 := be_t Q17 | replace Q17 := be_f Q17 | replace Q17 := of_decide_eq_true Q17 | replace Q17 := of_decide_eq_false Q17)
                                         first
                                          | (exfalso; first | omega | contradiction | (cases Q17; done))
                                          | skip
                                            refine cd_seq ?_
                                            refine cd_region ?_
                                            refine st_val (ro_loadA (cs := [_, _, _, _, _]) CmdAny_g26 CmdAny_z26 rfl (by exact (P7.from_ (From.rfl_.next E40)).whole)) ?_
                                            refine st_call CmdAny_k8 (bytes_l hbi hg hgood _) ?_
                                            rintro v63 w18 ⟨⟨A63, c63, rfl, hr63⟩, E63⟩
                                            refine st_val (ro_move (v := .tuple _) rfl) ?_
                                            refine st_val (ro_extract rfl rfl) ?_
                                            refine st_val (ro_extract rfl rfl) ?_
                                            refine st_val (ro_assign (v := .slice _ _ _) rfl) ?_
                                            refine st_val (ro_assign (v := .int _ _) rfl) ?_
                                            refine st_nil ?_
                                            refine nx_then ?_
                                            refine cd_seq ?_
                                            refine cd_region ?_
                                            refine st_val (ro_move (v := .int _ _) rfl) ?_
                                            refine st_call CmdAny_k7 (lnum_any _ _) ?_
                                            rintro v67 w19 ⟨rfl, rfl⟩
                                            refine st_val (ro_neq rfl rfl) ?_
                                            refine st_val (ro_move (v := .bool _) rfl) ?_
                                            refine st_split (t := 69) rfl (fun Q20 => ?_) (fun Q20 => ?_)
                                            · (try first | replace Q20 := bn_t Q20 | replace Q20 := bn_f Q20)
                                              (try first | replace Q20 := bx_t Q20 | replace Q20 := bx_f Q20 | replace Q20 := be_t Q20 | replace Q20 := be_f Q20 | replace Q20 := of_decide_eq_true Q20 | replace Q20 := of_decide_eq_false Q20)
                                              first
                                               | (exfalso; first | omega | contradiction | (cases Q20; done))
                                               | skip
                                                 refine st_gno rfl rfl ?_
                                                 refine st_gno rfl rfl ?_
                                                 refine st_gno rfl rfl ?_
                                                 refine st_gno rfl rfl ?_
                                                 refine st_gno rfl rfl ?_
                                                 refine st_gno rfl rfl ?_
                                                 refine st_gno rfl rfl ?_
                                                 refine st_val (ro_pickT (v := .bool _) rfl rfl) ?_
                                                 refine st_val (ro_move (v := .bool _) rfl) ?_
                                                 refine st_gno rfl rfl ?_
                                                 refine st_gno rfl rfl ?_
                                                 refine st_gno rfl rfl ?_
                                                 refine st_val (ro_pickT (v := .bool _) rfl rfl) ?_
                                                 refine st_nil ?_
                                                 refine nx_then ?_
                                                 refine cd_condT rfl ?_
                                                 refine cd_seq ?_
                                                 refine cd_region ?_
                                                 refine st_val (ro_assign (v := .bool _) rfl) ?_
                                                 refine st_nil ?_
                                                 refine nx_then ?_
                                                 refine cd_ret ?_
                                                 refine rt_block ?_
                                                 refine rt_then ?_
                                                 refine rt_then ?_
                                                 refine rt_block ?_
                                                 refine rt_then ?_
                                                 refine res1 (v := .bool _) rfl rfl ?_
                                                 exact ⟨rfl, ((((((hB.next E29).next E32).next E5).only O7 (hg5)).next E40).next E63)⟩
                                            · (try first | replace Q20 := bn_t Q20 | replace Q20 := bn_f Q20)
                                              (try first | replace Q20 := bx_t Q20 | replace Q20 := bx_f Q20 | replace Q20 := be_t Q20 | replace Q20 := be_f Q20 | replace Q20 := of_decide_eq_true Q20 | replace Q20 := of_decide_eq_false Q20)
                                              first
                                               | (exfalso; first | omega | contradiction | (cases Q20; done))
                                               | skip
                                                 refine st_unguard rfl ?_
                                                 refine st_val (ro_move (v := .slice _ _ _) rfl) ?_
                                                 refine st_unguard rfl ?_
                                                 refine st_val (ro_move (v := .slice _ _ _) rfl) ?_
                                                 refine st_unguard rfl ?_
                                                 refine st_val (ro_move (v := .int _ _) rfl) ?_
                                                 refine st_unguard rfl ?_
                                                 refine st_val (ro_indexAddr1 CmdAny_e22 rfl rfl (by omega)) ?_
                                                 refine st_unguard rfl ?_
                                                 refine st_val (ro_load CmdAny_g23 rfl (by exact cellF ((((((hB.next E29).next E32).next E5).only O7 (hg5)).next E40).next E63) hcell)) ?_
                                                 refine st_unguard rfl ?_
                                                 refine st_call CmdAny_k6 (eq_same A63 Ai c63 ci _ li _ rfl hr63 (hri.from_ ((((((hB.next E29).next E32).next E5).only O7 (hg5)).next E40).next E63)) hli) ?_
                                                 rintro v75 w21 ⟨rfl, E75⟩
                                                 refine st_unguard rfl ?_
                                                 refine st_val (ro_not rfl) ?_
                                                 refine st_val (ro_pickF (v := .bool _) rfl rfl) ?_
                                                 refine st_val (ro_move (v := .bool _) rfl) ?_
                                                 refine st_split (t := 78) rfl (fun Q22 => ?_) (fun Q22 => ?_)
                                                 · (try first | replace Q22 := bn_t Q22 | replace Q22 := bn_f Q22)
                                                   (try first | replace Q22 := bx_t Q22 | replace Q22 := bx_f Q22 | replace Q22 := be_t Q22 | replace Q22 := be_f Q22 | replace Q22 := of_decide_eq_true Q22 | replace Q22 := of_decide_eq_false Q22)
                                                   first
                                                    | (exfalso; first | omega | contradiction | (cases Q22; done))
                                                    | skip
                                                      refine st_gno rfl rfl ?_
                                                      refine st_gno rfl rfl ?_
                                                      refine st_gno rfl rfl ?_
                                                      refine st_val (ro_pickT (v := .bool _) rfl rfl) ?_
                                                      refine st_nil ?_
                                                      refine nx_then ?_
                                                      refine cd_condT rfl ?_
                                                      refine cd_seq ?_
                                                      refine cd_region ?_
                                                      refine st_val (ro_assign (v := .bool _) rfl) ?_
                                                      refine st_nil ?_
                                                      refine nx_then ?_
                                                      refine cd_ret ?_
                                                      refine rt_block ?_
                                                      refine rt_then ?_
                                                      refine rt_then ?_
                                                      refine rt_block ?_
                                                      refine rt_then ?_
                                                      refine res1 (v := .bool _) rfl rfl ?_
                                                      exact ⟨rfl, (((((((hB.next E29).next E32).next E5).only O7 (hg5)).next E40).next E63).next E75)⟩
                                                 · (try first | replace Q22 := bn_t Q22 | replace Q22 := bn_f Q22)
                                                   (try first | replace Q22 := bx_t Q22 | replace Q22 := bx_f Q22 | replace Q22 := be_t Q22 | replace Q22 := be_f Q22 | replace Q22 := of_decide_eq_true Q22 | replace Q22 := of_decide_eq_false Q22)
                                                   first
                                                    | (exfalso; first | omega | contradiction | (cases Q22; done))
                                                    | skip
                                                      refine st_unguard rfl ?_
                                                      refine st_val (ro_loadA (cs := [_, _, _, _, _]) CmdAny_g26 CmdAny_z26 rfl (by exact (P7.from_ (((From.rfl_.next E40).next E63).next E75)).whole)) ?_
                                                      refine st_unguard rfl ?_
                                                      refine st_call CmdAny_k9 (rcmd_ok _ _ _ _ _ _ (by have := hsl 3; omega) (by have := hsl 4; omega) hgood.2.2) ?_
                                                      rintro v80 w23 ⟨rfl, E80⟩
                                                      refine st_unguard rfl ?_
                                                      refine st_val (ro_not rfl) ?_
                                                      refine st_val (ro_pickF (v := .bool _) rfl rfl) ?_
                                                      refine st_nil ?_
                                                      refine nx_then ?_
                                                      refine cd_cond rfl (fun Q24 => ?_) (fun Q24 => ?_)
                                                      · (try first | replace Q24 := bn_t Q24 | replace Q24 := bn_f Q24)
                                                        (try first | replace Q24 := bx_t Q24 | replace Q24 := bx_f Q24 | replace Q24 := be_t Q24 | replace Q24 := be_f Q24 | replace Q24 := of_decide_eq_true Q24 | replace Q24 := of_decide_eq_false Q24)
                                                        first
                                                         | (exfalso; first | omega | contradiction | (cases Q24; done))
                                                         | skip
                                                           refine cd_seq ?_
                                                           refine cd_region ?_
                                                           refine st_val (ro_assign (v := .bool _) rfl) ?_
                                                           refine st_nil ?_
                                                           refine nx_then ?_
                                                           refine cd_ret ?_
                                                           refine rt_block ?_
                                                           refine rt_then ?_
                                                           refine rt_then ?_
                                                           refine rt_block ?_
                                                           refine rt_then ?_
                                                           refine res1 (v := .bool _) rfl rfl ?_
                                                           exact ⟨rfl, ((((((((hB.next E29).next E32).next E5).only O7 (hg5)).next E40).next E63).next E75).next E80)⟩
                                                      · (try first | replace Q24 := bn_t Q24 | replace Q24 := bn_f Q24)
                                                        (try first | replace Q24 := bx_t Q24 | replace Q24 := bx_f Q24 | replace Q24 := be_t Q24 | replace Q24 := be_f Q24 | replace Q24 := of_decide_eq_true Q24 | replace Q24 := of_decide_eq_false Q24)
                                                        first
                                                         | (exfalso; first | omega | contradiction | (cases Q24; done))
                                                         | skip
                                                           refine cd_skip ?_
                                                           refine nx_block ?_
                                                           refine nx_then ?_
                                                           refine cd_region ?_
                                                           refine st_val (ro_move (v := .int _ _) rfl) ?_
                                                           refine st_val (ro_addN (b := 1) rfl rfl (by omega)) ?_
                                                           refine st_val (ro_assign (v := .int _ _) rfl) ?_
                                                           refine st_nil ?_
                                                           refine nx_cut (i + 1) ⟨(by first | rfl | (refine int_eq ?_; omega)), trivial⟩ (by (iterate 167 refine agr_cons rfl ?_); exact agr_rfl) ⟨?_, ?_⟩
                                                           · exact ⟨by omega, ((((((((hB.next E29).next E32).next E5).only O7 (hg5)).next E40).next E63).next E75).next E80)⟩
                                                           · omega
                                       · (try first | replace Q17 := bn_t Q17 | replace Q17 := bn_f Q17)
                                         (try first | replace Q17 := bx_t Q17 | replace Q17 := bx_f Q17 | replace Q17 := be_t Q17 | replace Q17 := be_f Q17 | replace Q17 := of_decide_eq_true Q17 | replace Q17 := of_decide_eq_false Q17)
                                         first
                                          | (exfalso; first | omega | contradiction | (cases Q17; done))
                                          | skip
                                            refine cd_skip ?_
                                            refine nx_block ?_
                                            refine nx_then ?_
                                            refine cd_region ?_
                                            refine st_val (ro_move (v := .int _ _) rfl) ?_
                                            refine st_val (ro_addN (b := 1) rfl rfl (by omega)) ?_
                                            refine st_val (ro_assign (v := .int _ _) rfl) ?_
                                            refine st_nil ?_
                                            refine nx_cut (i + 1) ⟨(by first | rfl | (refine int_eq ?_; omega)), trivial⟩ (by (iterate 141 refine agr_cons rfl ?_); exact agr_rfl) ⟨?_, ?_⟩
                                            · exact ⟨by omega, (((((hB.next E29).next E32).next E5).only O7 (hg5)).next E40)⟩
                                            · omega
                        · (try first | replace Q12 := bn_t Q12 | replace Q12 := bn_f Q12)
                          (try first | replace Q12 := bx_t Q12 | replace Q12 := bx_f Q12 | replace Q12 := be_t Q12 | replace Q12 := be_f Q12 | replace Q12 := of_decide_eq_true Q12 | replace Q12 := of_decide_eq_false Q12)
                          first
                           | (exfalso; first | omega | contradiction | (cases Q12; done))
                           | skip
                             refine st_gno rfl rfl ?_
                             refine st_gno rfl rfl ?_
                             refine st_gno rfl rfl ?_
                             refine st_gno rfl rfl ?_
                             refine st_gund rfl ?_
                             refine st_gund rfl ?_
                             refine st_gund rfl ?_
                             refine st_gund rfl ?_
                             refine st_gno rfl rfl ?_
                             refine st_unguard rfl ?_
                             refine st_val (ro_pickF (v := .bool _) rfl rfl) ?_
                             refine st_val (ro_pickF (v := .bool _) rfl rfl) ?_
                             refine st_nil ?_
                             refine nx_then ?_
                             refine cd_condF rfl ?_
                             refine cd_skip ?_
                             refine nx_then ?_
                             refine cd_seq ?_
                             refine cd_region ?_
                             refine st_val (ro_move (v := .int _ _) rfl) ?_
                             refine st_call CmdAny_k7 (lnum_any _ _) ?_
                             rintro v59 w25 ⟨rfl, rfl⟩
                             refine st_val (ro_eql rfl rfl) ?_
                             refine st_nil ?_
                             refine nx_then ?_
                             refine cd_cond rfl (fun Q26 => ?_) (fun Q26 => ?_)
                             · (try first | replace Q26 := bn_t Q26 | replace Q26 := bn_f Q26)
                               (try first | replace Q26 := bx_t Q26 | replace Q26 := bx_f Q26 | replace Q26 := be_t Q26 | replace Q26 := be_f Q26 | replace Q26 := of_decide_eq_true Q26 | replace Q26 := of_decide_eq_false Q26)
                               first
                                | (exfalso; first | omega | contradiction | (cases Q26; done))
                                | skip
                                  refine cd_seq ?_
                                  refine cd_region ?_
                                  refine st_val (ro_loadA (cs := [_, _, _, _, _]) CmdAny_g26 CmdAny_z26 rfl (by exact (P7.from_ (From.rfl_.next E40)).whole)) ?_
                                  refine st_call CmdAny_k8 (bytes_l hbi hg hgood _) ?_
                                  rintro v63 w27 ⟨⟨A63, c63, rfl, hr63⟩, E63⟩
                                  refine st_val (ro_move (v := .tuple _) rfl) ?_
                                  refine st_val (ro_extract rfl rfl) ?_
                                  refine st_val (ro_extract rfl rfl) ?_
                                  refine st_val (ro_assign (v := .slice _ _ _) rfl) ?_
                                  refine st_val (ro_assign (v := .int _ _) rfl) ?_
                                  refine st_nil ?_
                                  refine nx_then ?_
                                  refine cd_seq ?_
                                  refine cd_region ?_
                                  refine st_val (ro_move (v := .int _ _) rfl) ?_
                                  refine st_call CmdAny_k7 (lnum_any _ _) ?_
                                  rintro v67 w28 ⟨rfl, rfl⟩
                                  refine st_val (ro_neq rfl rfl) ?_
                                  refine st_val (ro_move (v := .bool _) rfl) ?_
                                  refine st_split (t := 69) rfl (fun Q29 => ?_) (fun Q29 => ?_)
                                  · (try first | replace Q29 := bn_t Q29 | replace Q29 := bn_f Q29)
                                    (try first | replace Q29 := bx_t Q29 | replace Q29 := bx_f Q29 | replace Q29 := be_t Q29 | replace Q29 := be_f Q29 | replace Q29 := of_decide_eq_true Q29 | replace Q29 := of_decide_eq_false Q29)
                                    first
                                     | (exfalso; first | omega | contradiction | (cases Q29; done))
                                     | skip
                                       refine st_gno rfl rfl ?_
                                       refine st_gno rfl rfl ?_
                                       refine st_gno rfl rfl ?_
                                       refine st_gno rfl rfl ?_
                                       refine st_gno rfl rfl ?_
                                       refine st_gno rfl rfl ?_
                                       refine st_gno rfl rfl ?_
                                       refine st_val (ro_pickT (v := .bool _) rfl rfl) ?_
                                       refine st_val (ro_move (v := .bool _) rfl) ?_
                                       refine st_gno rfl rfl ?_
                                       refine st_gno rfl rfl ?_
                                       refine st_gno rfl rfl ?_
                                       refine st_val (ro_pickT (v := .bool _) rfl rfl) ?_
                                       refine st_nil ?_
                                       refine nx_then ?_
                                       refine cd_condT rfl ?_
                                       refine cd_seq ?_
                                       refine cd_region ?_
                                       refine st_val (ro_assign (v := .bool _) rfl) ?_
                                       refine st_nil ?_
                                       refine nx_then ?_
                                       refine cd_ret ?_
                                       refine rt_block ?_
                                       refine rt_then ?_
                                       refine rt_then ?_
                                       refine rt_block ?_
                                       refine rt_then ?_
                                       refine res1 (v := .bool _) rfl rfl ?_
                                       exact ⟨rfl, ((((((hB.next E29).next E32).next E5).only O7 (hg5)).next E40).next E63)⟩
                                  · (try first | replace Q29 := bn_t Q29 | replace Q29 := bn_f Q29)
                                    (try first | replace Q29 := bx_t Q29 | replace Q29 := bx_f Q29 | replace Q29 := be_t Q29 | replace Q29 := be_f Q29 | replace Q29 := of_decide_eq_true Q29 | replace Q29 := of_decide_eq_false Q29)
                                    first
                                     | (exfalso; first | omega | contradiction | (cases Q29; done))
                                     | skip
                                       refine st_unguard rfl ?_
                                       refine st_val (ro_move (v := .slice _ _ _) rfl) ?_
                                       refine st_unguard rfl ?_
                                       refine st_val (ro_move (v := .slice _ _ _) rfl) ?_
                                       refine st_unguard rfl ?_
                                       refine st_val (ro_move (v := .int _ _) rfl) ?_
                                       refine st_unguard rfl ?_
                                       refine st_val (ro_indexAddr1 CmdAny_e22 rfl rfl (by omega)) ?_
                                       refine st_unguard rfl ?_
                                       refine st_val (ro_load CmdAny_g23 rfl (by exact cellF ((((((hB.next E29).next E32).next E5).only O7 (hg5)).next E40).next E63) hcell)) ?_
                                       refine st_unguard rfl ?_
                                       refine st_call CmdAny_k6 (eq_same A63 Ai c63 ci _ li _ rfl hr63 (hri.from_ ((((((hB.next E29).next E32).next E5).only O7 (hg5)).next E40).next E63)) hli) ?_
                                       rintro v75 w30 ⟨rfl, E75⟩
                                       refine st_unguard rfl ?_
                                       refine st_val (ro_not rfl) ?_
                                       refine st_val (ro_pickF (v := .bool _) rfl rfl) ?_
                                       refine st_val (ro_move (v := .bool _) rfl) ?_
                                       refine st_split (t := 78) rfl (fun Q31 => ?_) (fun Q31 => ?_)
                                       · (try first | replace Q31 := bn_t Q31 | replace Q31 := bn_f Q31)
                                         (try first | replace Q31 := bx_t Q31 | replace Q31 := bx_f Q31 | replace Q31 := be_t Q31 | replace Q31 := be_f Q31 | replace Q31 := of_decide_eq_true Q31 | replace Q31 := of_decide_eq_false Q31)
                                         first
                                          | (exfalso; first | omega | contradiction | (cases Q31; done))
                                          | skip
                                            refine st_gno rfl rfl ?_
                                            refine st_gno rfl rfl ?_
                                            refine st_gno rfl rfl ?_
                                            refine st_val (ro_pickT (v := .bool _) rfl rfl) ?_
                                            refine st_nil ?_
                                            refine nx_then ?_
                                            refine cd_condT rfl ?_
                                            refine cd_seq ?_
                                            refine cd_region ?_
                                            refine st_val (ro_assign (v := .bool _) rfl) ?_
                                            refine st_nil ?_
                                            refine nx_then ?_
                                            refine cd_ret ?_
                                            refine rt_block ?_
                                            refine rt_then ?_
                                            refine rt_then ?_
                                            refine rt_block ?_
                                            refine rt_then ?_
                                            refine res1 (v := .bool _) rfl rfl ?_
                                            exact ⟨rfl, (((((((hB.next E29).next E32).next E5).only O7 (hg5)).next E40).next E63).next E75)⟩
                                       · (try first | replace Q31 := bn_t Q31 | replace Q31 := bn_f Q31)
                                         (try first | replace Q31 := bx_t Q31 | replace Q31 := bx_f Q31 | replace Q31 := be_t Q31 | replace Q31 := be_f Q31 | replace Q31 := of_decide_eq_true Q31 | replace Q31 := of_decide_eq_false Q31)
                                         first
                                          | (exfalso; first | omega | contradiction | (cases Q31; done))
                                          | skip
                                            refine st_unguard rfl ?_
                                            refine st_val (ro_loadA (cs := [_, _, _, _, _]) CmdAny_g26 CmdAny_z26 rfl (by exact (P7.from_ (((From.rfl_.next E40).next E63).next E75)).whole)) ?_
                                            refine st_unguard rfl ?_
                                            refine st_call CmdAny_k9 (rcmd_ok _ _ _ _ _ _ (by have := hsl 3; omega) (by have := hsl 4; omega) hgood.2.2) ?_
                                            rintro v80 w32 ⟨rfl, E80⟩
                                            refine st_unguard rfl ?_
                                            refine st_val (ro_not rfl) ?_
                                            refine st_val (ro_pickF (v := .bool _) rfl rfl) ?_
                                            refine st_nil ?_
                                            refine nx_then ?_
                                            refine cd_cond rfl (fun Q33 => ?_) (fun Q33 => ?_)
                                            · (try first | replace Q33 := bn_t Q33 | replace Q33 := bn_f Q33)
                                              (try first | replace Q33 := bx_t Q33 | replace Q33 := bx_f Q33 | replace Q33 := be_t Q33 | replace Q33 := be_f Q33 | replace Q33 := of_decide_eq_true Q33 | replace Q33 := of_decide_eq_false Q33)
                                              first
                                               | (exfalso; first | omega | contradiction | (cases Q33; done))
                                               | skip
                                                 refine cd_seq ?_
                                                 refine cd_region ?_
                                                 refine st_val (ro_assign (v := .bool _) rfl) ?_
                                                 refine st_nil ?_
                                                 refine nx_then ?_
                                                 refine cd_ret ?_
                                                 refine rt_block ?_
                                                 refine rt_then ?_
                                                 refine rt_then ?_
                                                 refine rt_block ?_
                                                 refine rt_then ?_
                                                 refine res1 (v := .bool _) rfl rfl ?_
                                                 exact ⟨rfl, ((((((((hB.next E29).next E32).next E5).only O7 (hg5)).next E40).next E63).next E75).next E80)⟩
                                            · (try first | replace Q33 := bn_t Q33 | replace Q33 := bn_f Q33)
                                              (try first | replace Q33 := bx_t Q33 | replace Q33 := bx_f Q33 | replace Q33 := be_t Q33 | replace Q33 := be_f Q33 | replace Q33 := of_decide_eq_true Q33 | replace Q33 := of_decide_eq_false Q33)
                                              first
                                               | (exfalso; first | omega | contradiction | (cases Q33; done))
                                               | skip
                                                 refine cd_skip ?_
                                                 refine nx_block ?_
                                                 refine nx_then ?_
                                                 refine cd_region ?_
                                                 refine st_val (ro_move (v := .int _ _) rfl) ?_
                                                 refine st_val (ro_addN (b := 1) rfl rfl (by omega)) ?_
                                                 refine st_val (ro_assign (v := .int _ _) rfl) ?_
                                                 refine st_nil ?_
                                                 refine nx_cut (i + 1) ⟨(by first | rfl | (refine int_eq ?_; omega)), trivial⟩ (by (iterate 166 refine agr_cons rfl ?_); exact agr_rfl) ⟨?_, ?_⟩
                                                 · exact ⟨by omega, ((((((((hB.next E29).next E32).next E5).only O7 (hg5)).next E40).next E63).next E75).next E80)⟩
                                                 · omega
                             · (try first | replace Q26 := bn_t Q26 | replace Q26 := bn_f Q26)
                               (try first | replace Q26 := bx_t Q26 | replace Q26 := bx_f Q26 | replace Q26 := be_t Q26 | replace Q26 := be_f Q26 | replace Q26 := of_decide_eq_true Q26 | replace Q26 := of_decide_eq_false Q26)
                               first
                                | (exfalso; first | omega | contradiction | (cases Q26; done))
                                | skip
                                  refine cd_skip ?_
                                  refine nx_block ?_
                                  refine nx_then ?_
                                  refine cd_region ?_
                                  refine st_val (ro_move (v := .int _ _) rfl) ?_
                                  refine st_val (ro_addN (b := 1) rfl rfl (by omega)) ?_
                                  refine st_val (ro_assign (v := .int _ _) rfl) ?_
                                  refine st_nil ?_
                                  refine nx_cut (i + 1) ⟨(by first | rfl | (refine int_eq ?_; omega)), trivial⟩ (by (iterate 140 refine agr_cons rfl ?_); exact agr_rfl) ⟨?_, ?_⟩
                                  · exact ⟨by omega, (((((hB.next E29).next E32).next E5).only O7 (hg5)).next E40)⟩
                                  · omega
                 · refine st_val (ro_move (v := .tuple _) rfl) ?_
                   refine st_val (ro_extract rfl rfl) ?_
                   refine st_val (ro_extract rfl rfl) ?_
                   refine st_alloc CmdAny_o26 ?_
                   intro b5 w34 E5 hb5 hk5
                   have hg5 : w.heap.size ≤ b5 := by rw [hb5]; exact (((hB.next E29).next E32)).size
                   refine st_putW (vs := [_, _, _, _, _]) CmdAny_z26 rfl rfl (by simp [Value.oneCell']) (hk5) rfl ?_
                   intro w35 O7 P7
                   replace ho29 := own_only3 (ho29.kept_from (E32.next E5)) O7 (own_off (ho29.kept_from (E32.next E5)) hk5 (by decide))
                   refine st_val (ro_assign (v := .int _ _) rfl) ?_
                   refine st_nil ?_
                   refine nx_then ?_
                   refine cd_seq ?_
                   refine cd_seq ?_
                   refine cd_region ?_
                   refine st_val (ro_move (v := .slice _ _ _) rfl) ?_
                   refine st_val (ro_move (v := .slice _ _ _) rfl) ?_
                   refine st_val (ro_move (v := .int _ _) rfl) ?_
                   refine st_val (ro_indexAddr1 CmdAny_e22 rfl rfl (by omega)) ?_
                   refine st_val (ro_load CmdAny_g23 rfl (by exact cellF ((((hB.next E29).next E32).next E5).only O7 (hg5)) hcell)) ?_
                   refine st_call CmdAny_k6 (eq_same A29 Ai c29 ci _ li _ rfl (RowOf.of_row (f := bV) (RowC.of_own ho29).1).2 (hri.from_ ((((hB.next E29).next E32).next E5).only O7 (hg5))) hli) ?_
                   rintro v40 w36 ⟨rfl, E40⟩
                   refine st_val (ro_not rfl) ?_
                   refine st_val (ro_move (v := .bool _) rfl) ?_
                   refine st_split (t := 42) rfl (fun Q37 => ?_) (fun Q37 => ?_)
                   · (try first | replace Q37 := bn_t Q37 | replace Q37 := bn_f Q37)
                     (try first | replace Q37 := bx_t Q37 | replace Q37 := bx_f Q37 | replace Q37 := be_t Q37 | replace Q37 := be_f Q37 | replace Q37 := of_decide_eq_true Q37 | replace Q37 := of_decide_eq_false Q37)
                     first
                      | (exfalso; first | omega | contradiction | (cases Q37; done))
                      | skip
                        refine st_gno rfl rfl ?_
                        refine st_gno rfl rfl ?_
                        refine st_gno rfl rfl ?_
                        refine st_gno rfl rfl ?_
                        refine st_gund rfl ?_
                        refine st_gund rfl ?_
                        refine st_gund rfl ?_
                        refine st_gund rfl ?_
                        refine st_gund rfl ?_
                        refine st_gund rfl ?_
                        refine st_gund rfl ?_
                        refine st_gund rfl ?_
                        refine st_gund rfl ?_
                        refine st_gno rfl rfl ?_
                        refine st_val (ro_pickT (v := .bool _) rfl rfl) ?_
                        refine st_nil ?_
                        refine nx_then ?_
                        refine cd_condT rfl ?_
                        refine cd_seq ?_
                        refine cd_region ?_
                        refine st_val (ro_assign (v := .bool _) rfl) ?_
                        refine st_nil ?_
                        refine nx_then ?_
                        refine cd_ret ?_
                        refine rt_then ?_
                        refine rt_block ?_
                        refine rt_then ?_
                        refine rt_then ?_
                        refine rt_block ?_
                        refine rt_then ?_
                        refine res1 (v := .bool _) rfl rfl ?_
                        exact ⟨rfl, (((((hB.next E29).next E32).next E5).only O7 (hg5)).next E40)⟩
                   · (try first | replace Q37 := bn_t Q37 | replace Q37 := bn_f Q37)
                     (try first | replace Q37 := bx_t Q37 | replace Q37 := bx_f Q37 | replace Q37 := be_t Q37 | replace Q37 := be_f Q37 | replace Q37 := of_decide_eq_true Q37 | replace Q37 := of_decide_eq_false Q37)
                     first
                      | (exfalso; first | omega | contradiction | (cases Q37; done))
                      | skip
                        refine st_unguard rfl ?_
                        refine st_val (ro_move (v := .int _ _) rfl) ?_
                        refine st_unguard rfl ?_
                        refine st_call CmdAny_k7 (lnum_any _ _) ?_
                        rintro v44 w38 ⟨rfl, rfl⟩
                        refine st_unguard rfl ?_
                        refine st_val (ro_neq rfl rfl) ?_
                        refine st_unguard rfl ?_
                        refine st_val (ro_move (v := .bool _) rfl) ?_
                        refine st_split (t := 46) rfl (fun Q39 => ?_) (fun Q39 => ?_)
                        · (try first | replace Q39 := bn_t Q39 | replace Q39 := bn_f Q39)
                          (try first | replace Q39 := bx_t Q39 | replace Q39 := bx_f Q39 | replace Q39 := be_t Q39 | replace Q39 := be_f Q39 | replace Q39 := of_decide_eq_true Q39 | replace Q39 := of_decide_eq_false Q39)
                          first
                           | (exfalso; first | omega | contradiction | (cases Q39; done))
                           | skip
                             refine st_unguard rfl ?_
                             refine st_val (ro_move (v := .int _ _) rfl) ?_
                             refine st_unguard rfl ?_
                             refine st_call CmdAny_k7 (lnum_any _ _) ?_
                             rintro v48 w40 ⟨rfl, rfl⟩
                             refine st_unguard rfl ?_
                             refine st_val (ro_neq rfl rfl) ?_
                             refine st_unguard rfl ?_
                             refine st_val (ro_move (v := .bool _) rfl) ?_
                             refine st_split (t := 50) rfl (fun Q41 => ?_) (fun Q41 => ?_)
                             · (try first | replace Q41 := bn_t Q41 | replace Q41 := bn_f Q41)
                               (try first | replace Q41 := bx_t Q41 | replace Q41 := bx_f Q41 | replace Q41 := be_t Q41 | replace Q41 := be_f Q41 | replace Q41 := of_decide_eq_true Q41 | replace Q41 := of_decide_eq_false Q41)
                               first
                                | (exfalso; first | omega | contradiction | (cases Q41; done))
                                | skip
                                  refine st_gno rfl rfl ?_
                                  refine st_gno rfl rfl ?_
                                  refine st_gno rfl rfl ?_
                                  refine st_gno rfl rfl ?_
                                  refine st_unguard rfl ?_
                                  refine st_val (ro_pickT (v := .bool _) rfl rfl) ?_
                                  refine st_unguard rfl ?_
                                  refine st_val (ro_pickT (v := .bool _) rfl rfl) ?_
                                  refine st_val (ro_pickF (v := .bool _) rfl rfl) ?_
                                  refine st_nil ?_
                                  refine nx_then ?_
                                  refine cd_condT rfl ?_
                                  refine cd_seq ?_
                                  refine cd_region ?_
                                  refine st_val (ro_assign (v := .bool _) rfl) ?_
                                  refine st_nil ?_
                                  refine nx_then ?_
                                  refine cd_ret ?_
                                  refine rt_then ?_
                                  refine rt_block ?_
                                  refine rt_then ?_
                                  refine rt_then ?_
                                  refine rt_block ?_
                                  refine rt_then ?_
                                  refine res1 (v := .bool _) rfl rfl ?_
                                  exact ⟨rfl, (((((hB.next E29).next E32).next E5).only O7 (hg5)).next E40)⟩
                             · (try first | replace Q41 := bn_t Q41 | replace Q41 := bn_f Q41)
                               (try first | replace Q41 := bx_t Q41 | replace Q41 := bx_f Q41 | replace Q41 := be_t Q41 | replace Q41 := be_f Q41 | replace Q41 := of_decide_eq_true Q41 | replace Q41 := of_decide_eq_false Q41)
                               first
                                | (exfalso; first | omega | contradiction | (cases Q41; done))
                                | skip
                                  refine st_unguard rfl ?_
                                  refine st_val (ro_loadA (cs := [_, _, _, _, _]) CmdAny_g26 CmdAny_z26 rfl (by exact (P7.from_ (From.rfl_.next E40)).whole)) ?_
                                  refine st_unguard rfl ?_
                                  refine st_val (ro_build (l := []) (CmdAny_b26_)) ?_
                                  refine st_unguard rfl ?_
                                  refine st_val (ro_eq (ro_eqlCmd rfl rfl) (congrArg Value.bool (decide_eq_true ⟨rfl, rfl, rfl, rfl, rfl⟩))) ?_
                                  refine st_unguard rfl ?_
                                  refine st_val (ro_not rfl) ?_
                                  refine st_unguard rfl ?_
                                  refine st_val (ro_pickF (v := .bool _) rfl rfl) ?_
                                  refine st_unguard rfl ?_
                                  refine st_val (ro_pickT (v := .bool _) rfl rfl) ?_
                                  refine st_val (ro_pickF (v := .bool _) rfl rfl) ?_
                                  refine st_nil ?_
                                  refine nx_then ?_
                                  refine cd_cond rfl (fun Q42 => ?_) (fun Q42 => ?_)
                                  · (try first | replace Q42 := bn_t Q42 | replace Q42 := bn_f Q42)
                                    (try first | replace Q42 := bx_t Q42 | replace Q42 := bx_f Q42 | replace Q42 := be_t Q42 | replace Q42 := be_f Q42 | replace Q42 := of_decide_eq_true Q42 | replace Q42 := of_decide_eq_false Q42)
                                    first
                                     | (exfalso; first | omega | contradiction | (cases Q42; done))
                                     | skip
                                       refine cd_seq ?_
                                       refine cd_region ?_
                                       refine st_val (ro_assign (v := .bool _) rfl) ?_
                                       refine st_nil ?_
                                       refine nx_then ?_
                                       refine cd_ret ?_
                                       refine rt_then ?_
                                       refine rt_block ?_
                                       refine rt_then ?_
                                       refine rt_then ?_
                                       refine rt_block ?_
                                       refine rt_then ?_
                                       refine res1 (v := .bool _) rfl rfl ?_
                                       exact ⟨rfl, (((((hB.next E29).next E32).next E5).only O7 (hg5)).next E40)⟩
                                  · (try first | replace Q42 := bn_t Q42 | replace Q42 := bn_f Q42)
                                    (try first | replace Q42 := bx_t Q42 | replace Q42 := bx_f Q42 | replace Q42 := be_t Q42 | replace Q42 := be_f Q42 | replace Q42 := of_decide_eq_true Q42 | replace Q42 := of_decide_eq_false Q42)
                                    first
                                     | (exfalso; first | omega | contradiction | (cases Q42; done))
                                     | skip
                                       refine cd_skip ?_
                                       refine nx_then ?_
                                       refine cd_seq ?_
                                       refine cd_region ?_
                                       refine st_val (ro_move (v := .int _ _) rfl) ?_
                                       refine st_call CmdAny_k7 (lnum_any _ _) ?_
                                       rintro v59 w43 ⟨rfl, rfl⟩
                                       refine st_val (ro_eql rfl rfl) ?_
                                       refine st_nil ?_
                                       refine nx_then ?_
                                       refine cd_cond rfl (fun Q44 => ?_) (fun Q44 => ?_)
                                       · (try first | replace Q44 := bn_t Q44 | replace Q44 := bn_f Q44)
                                         (try first | replace Q44 := bx_t Q44 | replace Q44 := bx_f Q44 | replace Q44 := be_t Q44 | replace Q44 := be_f Q44 | replace Q44 := of_decide_eq_true Q44 | replace Q44 := of_decide_eq_false Q44)
                                         first
                                          | (exfalso; first | omega | contradiction | (cases Q44; done))
                                          | skip
                                            refine cd_seq ?_
                                            refine cd_region ?_
                                            refine st_val (ro_loadA (cs := [_, _, _, _, _]) CmdAny_g26 CmdAny_z26 rfl (by exact (P7.from_ (From.rfl_.next E40)).whole)) ?_
                                            refine st_call CmdAny_k8 (bytes_l hbi hg hgood _) ?_
                                            rintro v63 w45 ⟨⟨A63, c63, rfl, hr63⟩, E63⟩
                                            refine st_val (ro_move (v := .tuple _) rfl) ?_
                                            refine st_val (ro_extract rfl rfl) ?_
                                            refine st_val (ro_extract rfl rfl) ?_
                                            refine st_val (ro_assign (v := .slice _ _ _) rfl) ?_
                                            refine st_val (ro_assign (v := .int _ _) rfl) ?_
                                            refine st_nil ?_
                                            refine nx_then ?_
                                            refine cd_seq ?_
                                            refine cd_region ?_
                                            refine st_val (ro_move (v := .int _ _) rfl) ?_
                                            refine st_call CmdAny_k7 (lnum_any _ _) ?_
                                            rintro v67 w46 ⟨rfl, rfl⟩
                                            refine st_val (ro_neq rfl rfl) ?_
                                            refine st_val (ro_move (v := .bool _) rfl) ?_
                                            refine st_split (t := 69) rfl (fun Q47 => ?_) (fun Q47 => ?_)
                                            · (try first | replace Q47 := bn_t Q47 | replace Q47 := bn_f Q47)
                                              (try first | replace Q47 := bx_t Q47 | replace Q47 := bx_f Q47 | replace Q47 := be_t Q47 | replace Q47 := be_f Q47 | replace Q47 := of_decide_eq_true Q47 | replace Q47 := of_decide_eq_false Q47)
                                              first
                                               | (exfalso; first | omega | contradiction | (cases Q47; done))
                                               | skip
                                                 refine st_gno rfl rfl ?_
                                                 refine st_gno rfl rfl ?_
                                                 refine st_gno rfl rfl ?_
                                                 refine st_gno rfl rfl ?_
                                                 refine st_gno rfl rfl ?_
                                                 refine st_gno rfl rfl ?_
                                                 refine st_gno rfl rfl ?_
                                                 refine st_val (ro_pickT (v := .bool _) rfl rfl) ?_
                                                 refine st_val (ro_move (v := .bool _) rfl) ?_
                                                 refine st_gno rfl rfl ?_
                                                 refine st_gno rfl rfl ?_
                                                 refine st_gno rfl rfl ?_
                                                 refine st_val (ro_pickT (v := .bool _) rfl rfl) ?_
                                                 refine st_nil ?_
                                                 refine nx_then ?_
                                                 refine cd_condT rfl ?_
                                                 refine cd_seq ?_
                                                 refine cd_region ?_
                                                 refine st_val (ro_assign (v := .bool _) rfl) ?_
                                                 refine st_nil ?_
                                                 refine nx_then ?_
                                                 refine cd_ret ?_
                                                 refine rt_block ?_
                                                 refine rt_then ?_
                                                 refine rt_then ?_
                                                 refine rt_block ?_
                                                 refine rt_then ?_
                                                 refine res1 (v := .bool _) rfl rfl ?_
                                                 exact ⟨rfl, ((((((hB.next E29).next E32).next E5).only O7 (hg5)).next E40).next E63)⟩
                                            · (try first | replace Q47 := bn_t Q47 | replace Q47 := bn_f Q47)
                                              (try first | replace Q47 := bx_t Q47 | replace Q47 := bx_f Q47 | replace Q47 := be_t Q47 | replace Q47 := be_f Q47 | replace Q47 := of_decide_eq_true Q47 | replace Q47 := of_decide_eq_false Q47)
                                              first
                                               | (exfalso; first | omega | contradiction | (cases Q47; done))
                                               | skip
                                                 refine st_unguard rfl ?_
                                                 refine st_val (ro_move (v := .slice _ _ _) rfl) ?_
                                                 refine st_unguard rfl ?_
                                                 refine st_val (ro_move (v := .slice _ _ _) rfl) ?_
                                                 refine st_unguard rfl ?_
                                                 refine st_val (ro_move (v := .int _ _) rfl) ?_
                                                 refine st_unguard rfl ?_
                                                 refine st_val (ro_indexAddr1 CmdAny_e22 rfl rfl (by omega)) ?_
                                                 refine st_unguard rfl ?_
                                                 refine st_val (ro_load CmdAny_g23 rfl (by exact cellF ((((((hB.next E29).next E32).next E5).only O7 (hg5)).next E40).next E63) hcell)) ?_
                                                 refine st_unguard rfl ?_
                                                 refine st_call CmdAny_k6 (eq_same A63 Ai c63 ci _ li _ rfl hr63 (hri.from_ ((((((hB.next E29).next E32).next E5).only O7 (hg5)).next E40).next E63)) hli) ?_
                                                 rintro v75 w48 ⟨rfl, E75⟩
                                                 refine st_unguard rfl ?_
                                                 refine st_val (ro_not rfl) ?_
                                                 refine st_val (ro_pickF (v := .bool _) rfl rfl) ?_
                                                 refine st_val (ro_move (v := .bool _) rfl) ?_
                                                 refine st_split (t := 78) rfl (fun Q49 => ?_) (fun Q49 => ?_)
                                                 · (try first | replace Q49 := bn_t Q49 | replace Q49 := bn_f Q49)
                                                   (try first | replace Q49 := bx_t Q49 | replace Q49 := bx_f Q49 | replace Q49 := be_t Q49 | replace Q49 := be_f Q49 | replace Q49 := of_decide_eq_true Q49 | replace Q49 := of_decide_eq_false Q49)
                                                   first
                                                    | (exfalso; first | omega | contradiction | (cases Q49; done))
                                                    | skip
                                                      refine st_gno rfl rfl ?_
                                                      refine st_gno rfl rfl ?_
                                                      refine st_gno rfl rfl ?_
                                                      refine st_val (ro_pickT (v := .bool _) rfl rfl) ?_
                                                      refine st_nil ?_
                                                      refine nx_then ?_
                                                      refine cd_condT rfl ?_
                                                      refine cd_seq ?_
                                                      refine cd_region ?_
                                                      refine st_val (ro_assign (v := .bool _) rfl) ?_
                                                      refine st_nil ?_
                                                      refine nx_then ?_
                                                      refine cd_ret ?_
                                                      refine rt_block ?_
                                                      refine rt_then ?_
                                                      refine rt_then ?_
                                                      refine rt_block ?_
                                                      refine rt_then ?_
                                                      refine res1 (v := .bool _) rfl rfl ?_
                                                      exact ⟨rfl, (((((((hB.next E29).next E32).next E5).only O7 (hg5)).next E40).next E63).next E75)⟩
                                                 · (try first | replace Q49 := bn_t Q49 | replace Q49 := bn_f Q49)
                                                   (try first | replace Q49 := bx_t Q49 | replace Q49 := bx_f Q49 | replace Q49 := be_t Q49 | replace Q49 := be_f Q49 | replace Q49 := of_decide_eq_true Q49 | replace Q49 := of_decide_eq_false Q49)
                                                   first
                                                    | (exfalso; first | omega | contradiction | (cases Q49; done))
                                                    | skip
                                                      refine st_unguard rfl ?_
                                                      refine st_val (ro_loadA (cs := [_, _, _, _, _]) CmdAny_g26 CmdAny_z26 rfl (by exact (P7.from_ (((From.rfl_.next E40).next E63).next E75)).whole)) ?_
                                                      refine st_unguard rfl ?_
                                                      refine st_call CmdAny_k9 (rcmd_ok _ _ _ _ _ _ (by have := hsl 3; omega) (by have := hsl 4; omega) hgood.2.2) ?_
                                                      rintro v80 w50 ⟨rfl, E80⟩
                                                      refine st_unguard rfl ?_
                                                      refine st_val (ro_not rfl) ?_
                                                      refine st_val (ro_pickF (v := .bool _) rfl rfl) ?_
                                                      refine st_nil ?_
                                                      refine nx_then ?_
                                                      refine cd_cond rfl (fun Q51 => ?_) (fun Q51 => ?_)
                                                      · (try first | replace Q51 := bn_t Q51 | replace Q51 := bn_f Q51)
                                                        (try first | replace Q51 := bx_t Q51 | replace Q51 := bx_f Q51 | replace Q51 := be_t Q51 | replace Q51 := be_f Q51 | replace Q51 := of_decide_eq_true Q51 | replace Q51 := of_decide_eq_false Q51)
                                                        first
                                                         | (exfalso; first | omega | contradiction | (cases Q51; done))
                                                         | skip
                                                           refine cd_seq ?_
                                                           refine cd_region ?_
                                                           refine st_val (ro_assign (v := .bool _) rfl) ?_
                                                           refine st_nil ?_
                                                           refine nx_then ?_
                                                           refine cd_ret ?_
                                                           refine rt_block ?_
                                                           refine rt_then ?_
                                                           refine rt_then ?_
                                                           refine rt_block ?_
                                                           refine rt_then ?_
                                                           refine res1 (v := .bool _) rfl rfl ?_
                                                           exact ⟨rfl, ((((((((hB.next E29).next E32).next E5).only O7 (hg5)).next E40).next E63).next E75).next E80)⟩
                                                      · (try first | replace Q51 := bn_t Q51 | replace Q51 := bn_f Q51)
                                                        (try first | replace Q51 := bx_t Q51 | replace Q51 := bx_f Q51 | replace Q51 := be_t Q51 | replace Q51 := be_f Q51 | replace Q51 := of_decide_eq_true Q51 | replace Q51 := of_decide_eq_false Q51)
                                                        first
                                                         | (exfalso; first | omega | contradiction | (cases Q51; done))
                                                         | skip
                                                           refine cd_skip ?_
                                                           refine nx_block ?_
                                                           refine nx_then ?_
                                                           refine cd_region ?_
                                                           refine st_val (ro_move (v := .int _ _) rfl) ?_
                                                           refine st_val (ro_addN (b := 1) rfl rfl (by omega)) ?_
                                                           refine st_val (ro_assign (v := .int _ _) rfl) ?_
                                                           refine st_nil ?_
                                                           refine nx_cut (i + 1) ⟨(by first | rfl | (refine int_eq ?_; omega)), trivial⟩ (by (iterate 167 refine agr_cons rfl ?_); exact agr_rfl) ⟨?_, ?_⟩
                                                           · exact ⟨by omega, ((((((((hB.next E29).next E32).next E5).only O7 (hg5)).next E40).next E63).next E75).next E80)⟩
                                                           · omega
                                       · (try first | replace Q44 := bn_t Q44 | replace Q44 := bn_f Q44)
                                         (try first | replace Q44 := bx_t Q44 | replace Q44 := bx_f Q44 | replace Q44 := be_t Q44 | replace Q44 := be_f Q44 | replace Q44 := of_decide_eq_true Q44 | replace Q44 := of_decide_eq_false Q44)
                                         first
                                          | (exfalso; first | omega | contradiction | (cases Q44; done))
                                          | skip
                                            refine cd_skip ?_
                                            refine nx_block ?_
                                            refine nx_then ?_
                                            refine cd_region ?_
                                            refine st_val (ro_move (v := .int _ _) rfl) ?_
                                            refine st_val (ro_addN (b := 1) rfl rfl (by omega)) ?_
                                            refine st_val (ro_assign (v := .int _ _) rfl) ?_
                                            refine st_nil ?_
                                            refine nx_cut (i + 1) ⟨(by first | rfl | (refine int_eq ?_; omega)), trivial⟩ (by (iterate 141 refine agr_cons rfl ?_); exact agr_rfl) ⟨?_, ?_⟩
                                            · exact ⟨by omega, (((((hB.next E29).next E32).next E5).only O7 (hg5)).next E40)⟩
                                            · omega
                        · (try first | replace Q39 := bn_t Q39 | replace Q39 := bn_f Q39)
                          (try first | replace Q39 := bx_t Q39 | replace Q39 := bx_f Q39 | replace Q39 := be_t Q39 | replace Q39 := be_f Q39 | replace Q39 := of_decide_eq_true Q39 | replace Q39 := of_decide_eq_false Q39)
                          first
                           | (exfalso; first | omega | contradiction | (cases Q39; done))
                           | skip
                             refine st_gno rfl rfl ?_
                             refine st_gno rfl rfl ?_
                             refine st_gno rfl rfl ?_
                             refine st_gno rfl rfl ?_
                             refine st_gund rfl ?_
                             refine st_gund rfl ?_
                             refine st_gund rfl ?_
                             refine st_gund rfl ?_
                             refine st_gno rfl rfl ?_
                             refine st_unguard rfl ?_
                             refine st_val (ro_pickF (v := .bool _) rfl rfl) ?_
                             refine st_val (ro_pickF (v := .bool _) rfl rfl) ?_
                             refine st_nil ?_
                             refine nx_then ?_
                             refine cd_condF rfl ?_
                             refine cd_skip ?_
                             refine nx_then ?_
                             refine cd_seq ?_
                             refine cd_region ?_
                             refine st_val (ro_move (v := .int _ _) rfl) ?_
                             refine st_call CmdAny_k7 (lnum_any _ _) ?_
                             rintro v59 w52 ⟨rfl, rfl⟩
                             refine st_val (ro_eql rfl rfl) ?_
                             refine st_nil ?_
                             refine nx_then ?_
                             refine cd_cond rfl (fun Q53 => ?_) (fun Q53 => ?_)
                             · (try first | replace Q53 := bn_t Q53 | replace Q53 := bn_f Q53)
                               (try first | replace Q53 := bx_t Q53 | replace Q53 := bx_f Q53 | replace Q53 := be_t Q53 | replace Q53 := be_f Q53 | replace Q53 := of_decide_eq_true Q53 | replace Q53 := of_decide_eq_false Q53)
                               first
                                | (exfalso; first | omega | contradiction | (cases Q53; done))
                                | skip
                                  refine cd_seq ?_
                                  refine cd_region ?_
                                  refine st_val (ro_loadA (cs := [_, _, _, _, _]) CmdAny_g26 CmdAny_z26 rfl (by exact (P7.from_ (From.rfl_.next E40)).whole)) ?_
                                  refine st_call CmdAny_k8 (bytes_l hbi hg hgood _) ?_
                                  rintro v63 w54 ⟨⟨A63, c63, rfl, hr63⟩, E63⟩
                                  refine st_val (ro_move (v := .tuple _) rfl) ?_
                                  refine st_val (ro_extract rfl rfl) ?_
                                  refine st_val (ro_extract rfl rfl) ?_
                                  refine st_val (ro_assign (v := .slice _ _ _) rfl) ?_
                                  refine st_val (ro_assign (v := .int _ _) rfl) ?_
                                  refine st_nil ?_
                                  refine nx_then ?_
                                  refine cd_seq ?_
                                  refine cd_region ?_
                                  refine st_val (ro_move (v := .int _ _) rfl) ?_
                                  refine st_call CmdAny_k7 (lnum_any _ _) ?_
                                  rintro v67 w55 ⟨rfl, rfl⟩
                                  refine st_val (ro_neq rfl rfl) ?_
                                  refine st_val (ro_move (v := .bool _) rfl) ?_
                                  refine st_split (t := 69) rfl (fun Q56 => ?_) (fun Q56 => ?_)
                                  · (try first | replace Q56 := bn_t Q56 | replace Q56 := bn_f Q56)
                                    (try first | replace Q56 := bx_t Q56 | replace Q56 := bx_f Q56 | replace Q56 := be_t Q56 | replace Q56 := be_f Q56 | replace Q56 := of_decide_eq_true Q56 | replace Q56 := of_decide_eq_false Q56)
                                    first
                                     | (exfalso; first | omega | contradiction | (cases Q56; done))
                                     | skip
                                       refine st_gno rfl rfl ?_
                                       refine st_gno rfl rfl ?_
                                       refine st_gno rfl rfl ?_
                                       refine st_gno rfl rfl ?_
                                       refine st_gno rfl rfl ?_
                                       refine st_gno rfl rfl ?_
                                       refine st_gno rfl rfl ?_
                                       refine st_val (ro_pickT (v := .bool _) rfl rfl) ?_
                                       refine st_val (ro_move (v := .bool _) rfl) ?_
                                       refine st_gno rfl rfl ?_
                                       refine st_gno rfl rfl ?_
                                       refine st_gno rfl rfl ?_
                                       refine st_val (ro_pickT (v := .bool _) rfl rfl) ?_
                                       refine st_nil ?_
                                       refine nx_then ?_
                                       refine cd_condT rfl ?_
                                       refine cd_seq ?_
                                       refine cd_region ?_
                                       refine st_val (ro_assign (v := .bool _) rfl) ?_
                                       refine st_nil ?_
                                       refine nx_then ?_
                                       refine cd_ret ?_
                                       refine rt_block ?_
                                       refine rt_then ?_
                                       refine rt_then ?_
                                       refine rt_block ?_
                                       refine rt_then ?_
                                       refine res1 (v := .bool _) rfl rfl ?_
                                       exact ⟨rfl, ((((((hB.next E29).next E32).next E5).only O7 (hg5)).next E40).next E63)⟩
                                  · (try first | replace Q56 := bn_t Q56 | replace Q56 := bn_f Q56)
                                    (try first | replace Q56 := bx_t Q56 | replace Q56 := bx_f Q56 | replace Q56 := be_t Q56 | replace Q56 := be_f Q56 | replace Q56 := of_decide_eq_true Q56 | replace Q56 := of_decide_eq_false Q56)
                                    first
                                     | (exfalso; first | omega | contradiction | (cases Q56; done))
                                     | skip
                                       refine st_unguard rfl ?_
                                       refine st_val (ro_move (v := .slice _ _ _) rfl) ?_
                                       refine st_unguard rfl ?_
                                       refine st_val (ro_move (v := .slice _ _ _) rfl) ?_
                                       refine st_unguard rfl ?_
                                       refine st_val (ro_move (v := .int _ _) rfl) ?_
                                       refine st_unguard rfl ?_
                                       refine st_val (ro_indexAddr1 CmdAny_e22 rfl rfl (by omega)) ?_
                                       refine st_unguard rfl ?_
                                       refine st_val (ro_load CmdAny_g23 rfl (by exact cellF ((((((hB.next E29).next E32).next E5).only O7 (hg5)).next E40).next E63) hcell)) ?_
                                       refine st_unguard rfl ?_
                                       refine st_call CmdAny_k6 (eq_same A63 Ai c63 ci _ li _ rfl hr63 (hri.from_ ((((((hB.next E29).next E32).next E5).only O7 (hg5)).next E40).next E63)) hli) ?_
                                       rintro v75 w57 ⟨rfl, E75⟩
                                       refine st_unguard rfl ?_
                                       refine st_val (ro_not rfl) ?_
                                       refine st_val (ro_pickF (v := .bool _) rfl rfl) ?_
                                       refine st_val (ro_move (v := .bool _) rfl) ?_
                                       refine st_split (t := 78) rfl (fun Q58 => ?_) (fun Q58 => ?_)
                                       · (try first | replace Q58 := bn_t Q58 | replace Q58 := bn_f Q58)
                                         (try first | replace Q58 := bx_t Q58 | replace Q58 := bx_f Q58 | replace Q58 := be_t Q58 | replace Q58 := be_f Q58 | replace Q58 := of_decide_eq_true Q58 | replace Q58 := of_decide_eq_false Q58)
                                         first
                                          | (exfalso; first | omega | contradiction | (cases Q58; done))
                                          | skip
                                            refine st_gno rfl rfl ?_
                                            refine st_gno rfl rfl ?_
                                            refine st_gno rfl rfl ?_
                                            refine st_val (ro_pickT (v := .bool _) rfl rfl) ?_
                                            refine st_nil ?_
                                            refine nx_then ?_
                                            refine cd_condT rfl ?_
                                            refine cd_seq ?_
                                            refine cd_region ?_
                                            refine st_val (ro_assign (v := .bool _) rfl) ?_
                                            refine st_nil ?_
                                            refine nx_then ?_
                                            refine cd_ret ?_
                                            refine rt_block ?_
                                            refine rt_then ?_
                                            refine rt_then ?_
                                            refine rt_block ?_
                                            refine rt_then ?_
                                            refine res1 (v := .bool _) rfl rfl ?_
                                            exact ⟨rfl, (((((((hB.next E29).next E32).next E5).only O7 (hg5)).next E40).next E63).next E75)⟩
                                       · (try first | replace Q58 := bn_t Q58 | replace Q58 := bn_f Q58)
                                         (try first | replace Q58 := bx_t Q58 | replace Q58 := bx_f Q58 | replace Q58 := be_t Q58 | replace Q58 := be_f Q58 | replace Q58 := of_decide_eq_true Q58 | replace Q58 := of_decide_eq_false Q58)
                                         first
                                          | (exfalso; first | omega | contradiction | (cases Q58; done))
                                          | skip
                                            refine st_unguard rfl ?_
                                            refine st_val (ro_loadA (cs := [_, _, _, _, _]) CmdAny_g26 CmdAny_z26 rfl (by exact (P7.from_ (((From.rfl_.next E40).next E63).next E75)).whole)) ?_
                                            refine st_unguard rfl ?_
                                            refine st_call CmdAny_k9 (rcmd_ok _ _ _ _ _ _ (by have := hsl 3; omega) (by have := hsl 4; omega) hgood.2.2) ?_
                                            rintro v80 w59 ⟨rfl, E80⟩
                                            refine st_unguard rfl ?_
                                            refine st_val (ro_not rfl) ?_
                                            refine st_val (ro_pickF (v := .bool _) rfl rfl) ?_
                                            refine st_nil ?_
                                            refine nx_then ?_
                                            refine cd_cond rfl (fun Q60 => ?_) (fun Q60 => ?_)
                                            · (try first | replace Q60 := bn_t Q60 | replace Q60 := bn_f Q60)
                                              (try first | replace Q60 := bx_t Q60 | replace Q60 := bx_f Q60 | replace Q60 := be_t Q60 | replace Q60 := be_f Q60 | replace Q60 := of_decide_eq_true Q60 | replace Q60 := of_decide_eq_false Q60)
                                              first
                                               | (exfalso; first | omega | contradiction | (cases Q60; done))
                                               | skip
                                                 refine cd_seq ?_
                                                 refine cd_region ?_
                                                 refine st_val (ro_assign (v := .bool _) rfl) ?_
                                                 refine st_nil ?_
                                                 refine nx_then ?_
                                                 refine cd_ret ?_
                                                 refine rt_block ?_
                                                 refine rt_then ?_
                                                 refine rt_then ?_
                                                 refine rt_block ?_
                                                 refine rt_then ?_
                                                 refine res1 (v := .bool _) rfl rfl ?_
                                                 exact ⟨rfl, ((((((((hB.next E29).next E32).next E5).only O7 (hg5)).next E40).next E63).next E75).next E80)⟩
                                            · (try first | replace Q60 := bn_t Q60 | replace Q60 := bn_f Q60)
                                              (try first | replace Q60 := bx_t Q60 | replace Q60 := bx_f Q60 | replace Q60 := be_t Q60 | replace Q60 := be_f Q60 | replace Q60 := of_decide_eq_true Q60 | replace Q60 := of_decide_eq_false Q60)
                                              first
                                               | (exfalso; first | omega | contradiction | (cases Q60; done))
                                               | skip
                                                 refine cd_skip ?_
                                                 refine nx_block ?_
                                                 refine nx_then ?_
                                                 refine cd_region ?_
                                                 refine st_val (ro_move (v := .int _ _) rfl) ?_
                                                 refine st_val (ro_addN (b := 1) rfl rfl (by omega)) ?_
                                                 refine st_val (ro_assign (v := .int _ _) rfl) ?_
                                                 refine st_nil ?_
                                                 refine nx_cut (i + 1) ⟨(by first | rfl | (refine int_eq ?_; omega)), trivial⟩ (by (iterate 166 refine agr_cons rfl ?_); exact agr_rfl) ⟨?_, ?_⟩
                                                 · exact ⟨by omega, ((((((((hB.next E29).next E32).next E5).only O7 (hg5)).next E40).next E63).next E75).next E80)⟩
                                                 · omega
                             · (try first | replace Q53 := bn_t Q53 | replace Q53 := bn_f Q53)
                               (try first | replace Q53 := bx_t Q53 | replace Q53 := bx_f Q53 | replace Q53 := be_t Q53 | replace Q53 := be_f Q53 | replace Q53 := of_decide_eq_true Q53 | replace Q53 := of_decide_eq_false Q53)
                               first
                                | (exfalso; first | omega | contradiction | (cases Q53; done))
                                | skip
                                  refine cd_skip ?_
                                  refine nx_block ?_
                                  refine nx_then ?_
                                  refine cd_region ?_
                                  refine st_val (ro_move (v := .int _ _) rfl) ?_
                                  refine st_val (ro_addN (b := 1) rfl rfl (by omega)) ?_
                                  refine st_val (ro_assign (v := .int _ _) rfl) ?_
                                  refine st_nil ?_
                                  refine nx_cut (i + 1) ⟨(by first | rfl | (refine int_eq ?_; omega)), trivial⟩ (by (iterate 140 refine agr_cons rfl ?_); exact agr_rfl) ⟨?_, ?_⟩
                                  · exact ⟨by omega, (((((hB.next E29).next E32).next E5).only O7 (hg5)).next E40)⟩
                                  · omega
       · (try first | replace Q3 := bn_t Q3 | replace Q3 := bn_f Q3)
         (try first | replace Q3 := bx_t Q3 | replace Q3 := bx_f Q3 | replace Q3 := be_t Q3 | replace Q3 := be_f Q3 | replace Q3 := of_decide_eq_true Q3 | replace Q3 := of_decide_eq_false Q3)
         first
          | (exfalso; first | omega | contradiction | (cases Q3; done))
          | skip
            refine cd_exit ?_
            refine ex_then ?_
            refine ex_then ?_
            refine ex_block ?_
            refine nx_then ?_
            refine cd_seq ?_
            refine cd_region ?_
            refine st_call CmdAny_k10 (wakes_any _) ?_
            rintro v83 w61 ⟨rfl, E83⟩
            refine st_val (ro_assign (v := .bool _) rfl) ?_
            refine st_nil ?_
            refine nx_then ?_
            refine cd_ret ?_
            refine res1 (v := .bool _) rfl rfl ?_
            exact ⟨rfl, (hB.next E83)⟩
  · (try first | replace Q2 := bn_t Q2 | replace Q2 := bn_f Q2)
    (try first | replace Q2 := bx_t Q2 | replace Q2 := bx_f Q2 | replace Q2 := be_t Q2 | replace Q2 := be_f Q2 | replace Q2 := of_decide_eq_true Q2 | replace Q2 := of_decide_eq_false Q2)
    first
     | (exfalso; first | omega | contradiction | (cases Q2; done))
     | skip
       refine st_gno rfl rfl ?_
       refine st_gno rfl rfl ?_
       refine st_val (ro_pickF (v := .bool _) rfl rfl) ?_
       refine st_nil ?_
       refine nx_then ?_
       refine cd_condF rfl ?_
       refine cd_exit ?_
       refine ex_then ?_
       refine ex_then ?_
       refine ex_block ?_
       refine nx_then ?_
       refine cd_seq ?_
       refine cd_region ?_
       refine st_call CmdAny_k10 (wakes_any _) ?_
       rintro v83 w62 ⟨rfl, E83⟩
       refine st_val (ro_assign (v := .bool _) rfl) ?_
       refine st_nil ?_
       refine nx_then ?_
       refine cd_ret ?_
       refine res1 (v := .bool _) rfl rfl ?_
       exact ⟨rfl, (hB.next E83)⟩
set_option maxRecDepth 100000 in
theorem CommandAny_lifted (os : Os) (started : os.Started) (H : Type) (enc : TypeId × Value → H) :
    ReturnsInHanded {} Try.checked os 3 .any (Rows.commandAnySpec.pre6 enc Try.prog Try.f3 Rows.commandAnyRow.domain false) (Rows.commandAnySpec.post enc Try.prog Try.f3 false true false false) := by
  refine returnsInHanded_of_change_sized (C := Try.checked) Try.own started (by kernel_rfl) Try.func3
    (ChangeSpec.witness6 (enc := enc) (C := Try.checked) false ⟨#[], #[.slice none 0 0], []⟩ 8 (by kernel_rfl) (by kernel_rfl) (by kernel_rfl) (by kernel_rfl)) ?_
  intro W base args ds gs before hval hW _ hsz _
  exact law_step 3 Try.f3 22 4 Rows.commandAnySpec Try.params3 (by kernel_rfl) Try.underlying4 rfl (fun _ => rfl) (by kernel_rfl) (of_decide_eq_true (by kernel_rfl)) (walk_sl (.sl (.int .u8)) (by kernel_rfl) any_law) W base args ds gs before hval hW hsz

theorem CommandAny_holds : Rows.CommandAnySaid :=
  OpenClaim.holds_of_wide 3 Try.f3 rfl rfl rfl rfl rfl rfl rfl ⟨rfl, rfl, rfl, rfl, rfl⟩ rfl rfl rfl rfl rfl (by kernel_rfl) Try.func3 (by kernel_rfl)
    (of_decide_eq_true (by kernel_rfl)) (by unfold Func.isWrapper; first | (rw [if_pos (by decide +kernel)]; kernel_rfl) | (rw [if_neg (by decide +kernel)]; exact ⟨rfl, rfl⟩))
    (fun os started H enc _ => CommandAny_lifted os started H enc)
#print axioms CommandAny_holds

end Go.Proofs.Ythacjhdodjgojaa
