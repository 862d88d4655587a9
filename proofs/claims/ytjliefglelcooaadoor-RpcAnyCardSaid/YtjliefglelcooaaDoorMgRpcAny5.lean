/- rpc: Encode. -/
import Derived.Test.YtjliefglelcooaaDoorMgRpcAny4
import Derived.Test.YtjliefglelcooaaDoorMgRpcAny2
namespace Go.Proofs.YtjliefglelcooaaDoor
open Go.RowKit
open Go.ChangeShapes Go.WideShapes Go.ChangeAt
theorem RpcNums_l64 : (elemQ Tryd.prog 64).isSome = true := by kernel_rfl
theorem RpcNums_e64 : elemQ Tryd.prog 64 = some (3, 1) := by kernel_rfl
theorem RpcNums_g3 : aggQ Tryd.prog 3 = some false := by kernel_rfl
theorem RpcNums_k35 : callable Tryd.prog 35 = true := by kernel_rfl
theorem RpcNums_q46 : litQ Tryd.prog 46 = some (9, 1, 16, (.string ⟨#[]⟩)) := by kernel_rfl
theorem RpcNums_k32 : callable Tryd.prog 32 = true := by kernel_rfl
theorem RpcNums_s59 : (Tryd.prog.underlying 59).isSome = true := by kernel_rfl
theorem RpcNums_i5 : Tryd.prog.underlying 5 = some (.int .u8) := by kernel_rfl
theorem RpcNums_q23 : litQ Tryd.prog 23 = some (5, 1, 1, (.int .u8 0)) := by kernel_rfl
theorem RpcNums_l46 : (elemQ Tryd.prog 46).isSome = true := by kernel_rfl
theorem RpcNums_e46 : elemQ Tryd.prog 46 = some (9, 1) := by kernel_rfl
theorem RpcNums_g9 : aggQ Tryd.prog 9 = some false := by kernel_rfl
theorem RpcNums_k33 : callable Tryd.prog 33 = true := by kernel_rfl
theorem RpcNums_q64 : litQ Tryd.prog 64 = some (3, 1, 8, (.int .i64 0)) := by kernel_rfl
def numS (s : ByteArray) : Option Nat := match getNum (strB s) with
  | some (n, k) => if k = s.size then some n else none
  | none => none
theorem numS_nums {m : Nat} (h : m ≤ 9223372036854775807) : numS (strOf (nums m)) = some m := by
  unfold numS
  rw [strB_strOf (nums_byte9 h)]
  have := getNum_nums h []
  rw [List.append_nil] at this
  rw [this]
  simp [strOf_size]
theorem numS_back {s : ByteArray} {n : Nat} (h : numS s = some n) : s = strOf (nums n) ∧ n ≤ 9223372036854775807 := by
  unfold numS at h
  split at h
  · rename_i m k hg
    split at h
    · rename_i hk
      simp only [Option.some.injEq] at h
      subst h
      have h1 := getNum_back (strB_lt s) hg
      rw [List.take_of_length_le (by rw [strB_length]; omega)] at h1
      exact ⟨by rw [← h1, strOf_strB], (getNum_bound (strB_lt s) hg).1⟩
    · cases h
  · cases h
theorem numS_no {s : ByteArray} (h : getNum (strB s) = none) : numS s = none := by unfold numS; rw [h]
theorem numS_far {s : ByteArray} {n k : Nat} (h : getNum (strB s) = some (n, k)) (hk : k ≠ s.size) : numS s = none := by unfold numS; rw [h]; simp [hk]
theorem numS_is {s : ByteArray} {n k : Nat} (h : getNum (strB s) = some (n, k)) (hk : k = s.size) : numS s = some n := by unfold numS; rw [h]; simp [hk]
theorem num_w (m : Nat) (hm : m ≤ 9223372036854775807) (w : World) : Rt Tryd.prog 35 [.int .i64 (m : Nat)] w fun v w' => ∃ A c, v = .tuple #[.slice A (nums m).length c, .int .i64 0] ∧ RowC w' (.slice A (nums m).length c) (bytesV (nums m)) ∧ From w w' := by
  refine Calls.mono (num_any m hm w) fun e w' ⟨v', he, ho, hF⟩ => ?_
  have hr := RowC.of_own ho
  obtain ⟨A, c, hv, _, _⟩ := hr.2
  rw [bytesV_length] at hv
  subst hv
  exact ⟨_, he, A, c, rfl, hr, hF⟩
theorem put_w (A : Option Addr) (c n : Nat) (ts : List ByteArray) (w : World) (hn : n = ts.length) (hr : RowC w (.slice A n c) (ts.map .string)) (hs : ∀ s ∈ ts, s.size ≤ 140737488351232) (hfit : (putB ts).length ≤ 1048576) : Rt Tryd.prog 22 [.slice A n c] w fun v w' => ∃ A c, v = .tuple #[.slice A (putB ts).length c, .int .i64 0] ∧ w'.ownsRow w.heap.size 5 1 (.slice A (putB ts).length c) (putB ts).length (bytesV (putB ts)) ∧ From w w' := by
  refine Calls.mono (put_any _ ts w hr hs hfit) fun e w' ⟨v', he, ho, hF⟩ => ?_
  have hr := RowC.of_own ho
  obtain ⟨A, c, hv, _, _⟩ := hr.2
  rw [bytesV_length] at hv
  subst hv
  exact ⟨_, he, A, c, rfl, ho, hF⟩
theorem getnum_w (A : Option Addr) (c n : Nat) (l : List Nat) (hl : ∀ b ∈ l, b < 256) (w : World) (hr : RowC w (.slice A n c) (bytesV l)) : Rt Tryd.prog 33 [.slice A n c] w fun v w' => v = gotV (getNum l) ∧ w = w' :=
  Calls.mono (getnum_any _ l hl w hr) fun e w' ⟨he, hw⟩ => ⟨_, he, rfl, hw⟩
def GotR (w w' : World) (v : Value) (l : List Nat) : Prop := (getB l = none ∧ v = .tuple #[.slice none 0 0, .int .i64 1]) ∨ ∃ ss A c, getB l = some ss ∧ v = .tuple #[.slice A ss.length c, .int .i64 0] ∧ w'.ownsRow w.heap.size 9 1 (.slice A ss.length c) ss.length (ss.map .string)
theorem get_w (A : Option Addr) (c n : Nat) (l : List Nat) (hl : ∀ b ∈ l, b < 256) (w : World) (hr : RowC w (.slice A n c) (bytesV l)) : Rt Tryd.prog 17 [.slice A n c] w fun v w' => GotR w w' v l ∧ From w w' := by
  refine Calls.mono (get_any _ l hl w hr) fun e w' ⟨hg, hF⟩ => ?_
  cases hb : getB l with
  | none => rw [hb] at hg; exact ⟨_, hg, .inl ⟨hb, rfl⟩, hF⟩
  | some ss =>
    rw [hb] at hg
    obtain ⟨v', he, ho⟩ := hg
    obtain ⟨A, c, hv, _, _⟩ := (RowC.of_own ho).2
    rw [List.length_map] at hv
    subst hv
    exact ⟨_, he, .inr ⟨ss, A, c, hb, rfl, ho⟩, hF⟩
theorem sum_w (A : Option Addr) (c n : Nat) (l : List Nat) (w : World) (hr : RowC w (.slice A n c) (bytesV l)) (hl : ∀ b ∈ l, b < 256) (hlen : l.length ≤ 140737488351232) (hT : Table w) : Rt Tryd.prog 32 [.int .u32 0, .slice A n c] w fun v w' => v = .int .u32 (((sumF 0#32 l).toNat : Nat) : Int) ∧ From w w' :=
  Calls.mono (sum_any 0#32 _ l w hr.1 hl hlen hT) fun e w' ⟨he, hF⟩ => ⟨_, he, rfl, hF⟩
/-- the four bytes of the checksum -/
def ck (l : List Nat) : List Nat := let s := (sumF 0#32 l).toNat; [s % 256, s / 2 ^ 8 % 256, s / 2 ^ 16 % 256, s / 2 ^ 24 % 256]
theorem ck_len (l : List Nat) : (ck l).length = 4 := rfl
theorem ck_byte (l : List Nat) : ∀ b ∈ ck l, b < 256 := by
  intro b hb
  simp only [ck, List.mem_cons, List.not_mem_nil, or_false] at hb
  omega
def numsS (xs : List Int) : List ByteArray := xs.map fun x => strOf (nums x.toNat)
theorem numsS_len (xs : List Int) : (numsS xs).length = xs.length := by simp [numsS]
theorem numsS_take {xs : List Int} {j m : Nat} (h : j < xs.length) (e : xs[j] = (m : Nat)) : ((numsS xs).take (j + 1)).map Value.string = ((numsS xs).take j).map Value.string ++ [.string (strOf (nums m))] := by
  rw [List.take_succ_eq_append_getElem (by rw [numsS_len]; exact h), List.map_append]
  simp [numsS, e]
theorem mapIVn {xs : List Int} {k m : Nat} (h : k < xs.length) (e : xs[k] = (m : Nat)) : (xs.map iV).toArray[k]? = some (.int .i64 (m : Nat)) := by rw [mapIV h, e]
theorem RowC.restO {w : World} {A : Option Addr} {n cap : Nat} {vs : List Value} (h : RowC w (.slice A n cap) vs) {k : Nat} (hk : k ≤ vs.length) : RowC w (.slice (restOf A cap k 1) (n - k) (cap - k)) (vs.drop k) := by
  have e : restOf A cap k 1 = restA A cap k := by unfold restOf restA; simp only [Nat.mul_one]
  rw [e]
  exact h.rest hk
theorem strOf_inj {l m : List Nat} (hl : ∀ b ∈ l, b < 256) (hm : ∀ b ∈ m, b < 256) : ((strOf l).toList == (strOf m).toList) = decide (l = m) := by
  rw [Bool.eq_iff_iff, beq_iff_eq, decide_eq_true_eq, toList_inj]
  exact ⟨fun h => by rw [← strB_strOf hl, h, strB_strOf hm], fun h => by rw [h]⟩
def allN (ss : List ByteArray) : Prop := ∀ s ∈ ss, (numS s).isSome = true
def nv (s : ByteArray) : Nat := (numS s).getD 0
theorem allN_snoc {ss : List ByteArray} {s : ByteArray} : allN (ss ++ [s]) ↔ allN ss ∧ (numS s).isSome = true := by
  simp only [allN, List.mem_append, List.mem_singleton]
  exact ⟨fun h => ⟨fun y hy => h y (.inl hy), h s (.inr rfl)⟩, fun h y hy => hy.elim (h.1 y) (fun e => e ▸ h.2)⟩
theorem nv_is {s : ByteArray} {n : Nat} (h : numS s = some n) : nv s = n := by unfold nv; rw [h]; rfl
set_option maxRecDepth 100000 in
set_option maxHeartbeats 400000 in
theorem flag_r (b : Bool) (w : World) :
    Rt Tryd.prog 21 [.bool b] w (fun v w' => v = .int .i64 ((b.toNat : Nat) : Int) ∧ w = w') := by
  refine enter (n := 4) Tryd.func21 rfl rfl rfl ?_
  refine cd_seq ?_
  refine cd_region ?_
  refine st_val (ro_assign (v := .int _ _) rfl) ?_
  refine st_nil ?_
  refine nx_then ?_
  refine cd_seq ?_
  refine cd_seq ?_
  refine cd_region ?_
  refine st_val (ro_move (v := .bool _) rfl) ?_
  refine st_nil ?_
  refine nx_then ?_
  refine cd_cond rfl (fun Q1 => ?_) (fun Q1 => ?_)
  · (try first | replace Q1 := bn_t Q1 | replace Q1 := bn_f Q1)
    (try first | replace Q1 := bx_t Q1 | replace Q1 := bx_f Q1 | replace Q1 := be_t Q1 | replace Q1 := be_f Q1 | replace Q1 := of_decide_eq_true Q1 | replace Q1 := of_decide_eq_false Q1)
    have hb : b = true := by simpa using Q1
    refine cd_seq ?_
    refine cd_region ?_
    refine st_val (ro_assign (v := .int _ _) rfl) ?_
    refine st_nil ?_
    refine nx_then ?_
    refine cd_ret ?_
    refine rt_then ?_
    refine res1 (v := .int _ _) rfl rfl ?_
    exact ⟨int_eq (by rw [hb]; rfl), rfl⟩
  · (try first | replace Q1 := bn_t Q1 | replace Q1 := bn_f Q1)
    (try first | replace Q1 := bx_t Q1 | replace Q1 := bx_f Q1 | replace Q1 := be_t Q1 | replace Q1 := be_f Q1 | replace Q1 := of_decide_eq_true Q1 | replace Q1 := of_decide_eq_false Q1)
    have hb : b = false := by simpa using Q1
    refine cd_skip ?_
    refine nx_then ?_
    refine cd_seq ?_
    refine cd_region ?_
    refine st_val (ro_assign (v := .int _ _) rfl) ?_
    refine st_nil ?_
    refine nx_then ?_
    refine cd_ret ?_
    refine res1 (v := .int _ _) rfl rfl ?_
    exact ⟨int_eq (by rw [hb]; rfl), rfl⟩
set_option maxRecDepth 100000 in
set_option maxHeartbeats 400000 in
theorem lnum_any (e : Int) (w : World) :
    Rt Tryd.prog 8 [.int .i64 e] w (fun v w' => v = .int .i64 e ∧ w = w') := by
  refine enter (n := 4) Tryd.func8 rfl rfl rfl ?_
  refine cd_seq ?_
  refine cd_region ?_
  refine st_val (ro_assign (v := .int _ _) rfl) ?_
  refine st_nil ?_
  refine nx_then ?_
  refine cd_seq ?_
  refine cd_region ?_
  refine st_val (ro_move (v := .int _ _) rfl) ?_
  refine st_val (ro_assign (v := .int _ _) rfl) ?_
  refine st_nil ?_
  refine nx_then ?_
  refine cd_ret ?_
  refine res1 (v := .int _ _) rfl rfl ?_
  exact ⟨rfl, rfl⟩
set_option maxRecDepth 100000 in
set_option maxHeartbeats 400000 in
theorem nums_r (g m c : Nat) (xs : List Int) (w : World) (hm : m = xs.length) (hb : Blk w g 3 (xs.map iV).toArray) (h0 : ∀ x ∈ xs, 0 ≤ x ∧ x ≤ 9223372036854775807) (hl : xs.length ≤ 1000) :
    Rt Tryd.prog 20 [.slice (some ⟨g, 0, none⟩) m c] w (fun v w' => (∃ A' c', v = .slice A' m c' ∧ w'.ownsRow w.heap.size 9 1 (.slice A' m c') m ((numsS xs).map .string)) ∧ From w w') := by
  refine enter (n := 26) Tryd.func20 rfl rfl rfl ?_
  refine cd_seq ?_
  refine cd_region ?_
  refine st_val (ro_assign (v := .slice _ _ _) rfl) ?_
  refine st_nil ?_
  refine nx_then ?_
  refine cd_seq ?_
  refine cd_region ?_
  refine st_val (ro_assign (v := .slice _ _ _) rfl) ?_
  refine st_nil ?_
  refine nx_then ?_
  refine cd_seq ?_
  refine cd_seq ?_
  refine cd_region ?_
  refine st_val (ro_move (v := .slice _ _ _) rfl) ?_
  refine st_val (ro_len RpcNums_l64 rfl) ?_
  refine st_val (ro_move (v := .int _ _) rfl) ?_
  refine st_nil ?_
  refine nx_then ?_
  refine cd_block ?_
  refine cd_loop (G := Nat × Option Addr × Nat) [5, 6, 7, 11, 12, 13, 14, 15, 16, 17, 18, 19, 20, 21, 22, 23, 24] (fun (j, A3, c3) => [(3, .slice A3 j c3), (10, .int .i64 (j : Nat))]) (fun (j, A3, c3) w' => j ≤ xs.length ∧ w'.ownsRow w.heap.size 9 1 (.slice A3 j c3) j (((numsS xs).take j).map .string) ∧ From w w') (fun (j, _, _) => xs.length - j) ((0, none, 0)) ⟨rfl, rfl, trivial⟩ ?_ ?_
  · exact ⟨Nat.zero_le _, World.ownsRow_nil _ _ _ _, From.rfl_⟩
  rintro ⟨j, A3, c3⟩ ρ1 w1 ⟨hj, ho, hB⟩
  refine cd_seq ?_
  refine cd_region ?_
  refine st_val (ro_lss rfl rfl) ?_
  refine st_nil ?_
  refine nx_then ?_
  refine cd_seq ?_
  refine cd_cond rfl (fun Q2 => ?_) (fun Q2 => ?_)
  · (try first | replace Q2 := bn_t Q2 | replace Q2 := bn_f Q2)
    (try first | replace Q2 := bx_t Q2 | replace Q2 := bx_f Q2 | replace Q2 := be_t Q2 | replace Q2 := be_f Q2 | replace Q2 := of_decide_eq_true Q2 | replace Q2 := of_decide_eq_false Q2)
    have hjx : j < xs.length := by omega
    obtain ⟨q, hm9⟩ : ∃ q : Nat, xs[j] = (q : Nat) := ⟨xs[j].toNat, by have := h0 _ (List.getElem_mem hjx); omega⟩
    have hq9 : q ≤ 9223372036854775807 := by have := h0 _ (List.getElem_mem hjx); omega
    first
     | (exfalso; first | omega | contradiction | (cases Q2; done))
     | skip
       refine cd_skip ?_
       refine nx_then ?_
       refine cd_seq ?_
       refine cd_block ?_
       refine cd_seq ?_
       refine cd_region ?_
       refine st_val (ro_indexAddr0 RpcNums_e64 rfl rfl (by omega)) ?_
       refine st_val (ro_load RpcNums_g3 rfl (by exact (hb.from_ hB).rd j (mapIVn hjx hm9))) ?_
       refine st_val (ro_assign (v := .int _ _) rfl) ?_
       refine st_nil ?_
       refine nx_then ?_
       refine cd_seq ?_
       refine cd_region ?_
       refine st_val (ro_move (v := .int _ _) rfl) ?_
       refine st_call RpcNums_k35 (num_w q hq9 _) ?_
       rintro v16 w3 ⟨A16, c16, rfl, hr16, E16⟩
       refine st_val (ro_move (v := .tuple _) rfl) ?_
       refine st_val (ro_extract rfl rfl) ?_
       refine st_val (ro_extract rfl rfl) ?_
       refine st_val (ro_assign (v := .slice _ _ _) rfl) ?_
       refine st_val (ro_assign (v := .int _ _) rfl) ?_
       refine st_nil ?_
       refine nx_then ?_
       refine cd_region ?_
       refine st_val (ro_move (v := .slice _ _ _) rfl) ?_
       refine st_val (ro_move (v := .slice _ _ _) rfl) ?_
       refine st_val (ro_convStr (l := nums q) (nums_byte9 hq9) rfl hr16) ?_
       refine st_lit1 (v := .string _) RpcNums_q46 rfl rfl rfl ?_
       intro b22 w4 E22 hb22 hk22
       refine st_push1 (a0 := w) RpcNums_q46 rfl rfl (ho.kept_from (E16.next E22)) ((hB.next E16).next E22) rfl hk22 rfl (by omega) (by omega) ?_
       intro A23 c23 w5 ho23 B23 hg23
       refine st_val (ro_assign (v := .slice _ _ _) rfl) ?_
       refine st_nil ?_
       refine nx_block ?_
       refine nx_then ?_
       refine cd_region ?_
       refine st_val (ro_addN (b := 1) rfl rfl (by omega)) ?_
       refine st_val (ro_move (v := .int _ _) rfl) ?_
       refine st_nil ?_
       refine nx_cut ((j + 1, A23, c23)) ⟨(by first | rfl | (refine int_eq ?_; omega)), (by first | rfl | (refine int_eq ?_; omega)), trivial⟩ (by (iterate 38 refine agr_cons rfl ?_); exact agr_rfl) ⟨?_, ?_⟩
       · exact ⟨by omega, by rw [numsS_take hjx hm9]; exact ho23, B23⟩
       · show xs.length - (j + 1) < xs.length - j; omega
  · (try first | replace Q2 := bn_t Q2 | replace Q2 := bn_f Q2)
    (try first | replace Q2 := bx_t Q2 | replace Q2 := bx_f Q2 | replace Q2 := be_t Q2 | replace Q2 := be_f Q2 | replace Q2 := of_decide_eq_true Q2 | replace Q2 := of_decide_eq_false Q2)
    obtain rfl : j = xs.length := by omega
    first
     | (exfalso; first | omega | contradiction | (cases Q2; done))
     | skip
       refine cd_exit ?_
       refine ex_then ?_
       refine ex_then ?_
       refine ex_block ?_
       refine nx_then ?_
       refine cd_seq ?_
       refine cd_region ?_
       refine st_val (ro_move (v := .slice _ _ _) rfl) ?_
       refine st_val (ro_assign (v := .slice _ _ _) rfl) ?_
       refine st_nil ?_
       refine nx_then ?_
       refine cd_ret ?_
       refine res1 (v := .slice _ _ _) rfl rfl ?_
       subst hm
       exact ⟨⟨A3, c3, rfl, by rwa [List.take_of_length_le (by rw [numsS_len]; exact Nat.le_refl _)] at ho⟩, hB⟩
set_option maxRecDepth 100000 in
set_option maxHeartbeats 400000 in
theorem ck_r (A : Option Addr) (c n : Nat) (l : List Nat) (w : World) (hr : RowC w (.slice A n c) (bytesV l)) (hl : ∀ b ∈ l, b < 256) (hlen : l.length ≤ 140737488351232) (hT : Table w) :
    Rt Tryd.prog 16 [.slice A n c] w (fun v w' => (∃ g, v = .slice (some ⟨g, 0, none⟩) 4 4 ∧ w.heap.size ≤ g ∧ Blk w' g 5 ((ck l).map bV).toArray) ∧ From w w') := by
  refine enter (n := 18) Tryd.func16 rfl rfl rfl ?_
  refine cd_seq ?_
  refine cd_region ?_
  refine st_val (ro_assign (v := .slice _ _ _) rfl) ?_
  refine st_nil ?_
  refine nx_then ?_
  refine cd_seq ?_
  refine cd_region ?_
  refine st_val (ro_move (v := .slice _ _ _) rfl) ?_
  refine st_call RpcNums_k32 (sum_w A c n l _ (hr.from_ From.rfl_) hl hlen hT) ?_
  rintro v5 w1 ⟨rfl, E5⟩
  refine st_val (ro_assign (v := .int _ _) rfl) ?_
  refine st_nil ?_
  refine nx_then ?_
  refine cd_seq ?_
  refine cd_region ?_
  refine st_val (ro_move (v := .int _ _) rfl) ?_
  refine st_val (ro_conv8 RpcNums_s59 RpcNums_i5 rfl) ?_
  refine st_val (ro_move (v := .int _ _) rfl) ?_
  refine st_val (ro_shrN (b := 8) rfl rfl (by decide)) ?_
  refine st_val (ro_conv8 RpcNums_s59 RpcNums_i5 rfl) ?_
  refine st_val (ro_move (v := .int _ _) rfl) ?_
  refine st_val (ro_shrN (b := 16) rfl rfl (by decide)) ?_
  refine st_val (ro_conv8 RpcNums_s59 RpcNums_i5 rfl) ?_
  refine st_val (ro_move (v := .int _ _) rfl) ?_
  refine st_val (ro_shrN (b := 24) rfl rfl (by decide)) ?_
  refine st_val (ro_conv8 RpcNums_s59 RpcNums_i5 rfl) ?_
  refine st_lits [.tmp 7, .tmp 10, .tmp 13, .tmp 16] [.int _ _, .int _ _, .int _ _, .int _ _] RpcNums_q23 rfl rfl rfl rfl (by simp [Value.cells]) ?_
  intro b17 w2 E17 hb17 hk17
  refine st_val (ro_assign (v := .slice _ _ _) rfl) ?_
  refine st_nil ?_
  refine nx_then ?_
  refine cd_ret ?_
  refine res1 (v := .slice _ _ _) rfl rfl ?_
  exact ⟨⟨b17, rfl, by rw [hb17]; exact E5.size, hk17⟩, ((From.rfl_.next E5).next E17)⟩
set_option maxRecDepth 100000 in
set_option maxHeartbeats 400000 in
theorem equal_r (A B : Option Addr) (ca cb n m : Nat) (l k : List Nat) (w : World) (hr : RowC w (.slice A n ca) (bytesV l)) (hr2 : RowC w (.slice B m cb) (bytesV k)) (hl : ∀ b ∈ l, b < 256) (hk : ∀ b ∈ k, b < 256) :
    Rt Tryd.prog 15 [.slice A n ca, .slice B m cb] w (fun v w' => v = .bool (decide (l = k)) ∧ w = w') := by
  refine enter (n := 10) Tryd.func15 rfl rfl rfl ?_
  refine cd_seq ?_
  refine cd_region ?_
  refine st_val (ro_assign (v := .bool _) rfl) ?_
  refine st_nil ?_
  refine nx_then ?_
  refine cd_seq ?_
  refine cd_region ?_
  refine st_val (ro_move (v := .slice _ _ _) rfl) ?_
  refine st_val (ro_convStr (l := l) hl rfl hr) ?_
  refine st_val (ro_move (v := .slice _ _ _) rfl) ?_
  refine st_val (ro_convStr (l := k) hk rfl hr2) ?_
  refine st_val (ro_eq (ro_eqlS rfl rfl) (congrArg Value.bool (strOf_inj hl hk))) ?_
  refine st_val (ro_assign (v := .bool _) rfl) ?_
  refine st_nil ?_
  refine nx_then ?_
  refine cd_ret ?_
  refine res1 (v := .bool _) rfl rfl ?_
  exact ⟨rfl, rfl⟩
theorem nvs_take {ss : List ByteArray} {j q : Nat} (h : j < ss.length) (e : numS ss[j] = some q) : ((ss.take (j + 1)).map fun s => Value.int .i64 (nv s : Nat)) = ((ss.take j).map fun s => Value.int .i64 (nv s : Nat)) ++ [.int .i64 (q : Nat)] := by
  rw [List.take_succ_eq_append_getElem h, List.map_append]
  simp [nv_is e]
theorem nvs_take_ok {ss : List ByteArray} {j q : Nat} (h : j < ss.length) (e : numS ss[j] = some q) (ha : allN (ss.take j)) : allN (ss.take (j + 1)) := by
  rw [List.take_succ_eq_append_getElem h]
  exact allN_snoc.2 ⟨ha, by rw [e]; rfl⟩
theorem allN_not {ss : List ByteArray} {j : Nat} (h : j < ss.length) (e : numS ss[j] = none) : ¬ allN ss := fun ha => by
  have := ha _ (List.getElem_mem h)
  rw [e] at this
  cases this
set_option maxRecDepth 100000 in
set_option maxHeartbeats 400000 in
theorem parse_r (A : Option Addr) (c n : Nat) (ss : List ByteArray) (w : World) (hn : n = ss.length) (hr : RowOf .string w A ss) (hs : ∀ s ∈ ss, s.size ≤ 140737488351232) (hl : ss.length ≤ 100000000) :
    Rt Tryd.prog 34 [.slice A n c] w (fun v w' => ((allN ss ∧ ∃ A' c', v = .tuple #[.slice A' n c', .bool true] ∧ w'.ownsRow w.heap.size 3 1 (.slice A' n c') n (ss.map fun s => .int .i64 (nv s : Nat))) ∨ (¬ allN ss ∧ v = .tuple #[.slice none 0 0, .bool false])) ∧ From w w') := by
  refine enter (n := 37) Tryd.func34 rfl rfl rfl ?_
  refine cd_seq ?_
  refine cd_region ?_
  refine st_val (ro_assign (v := .slice _ _ _) rfl) ?_
  refine st_val (ro_assign (v := .bool _) rfl) ?_
  refine st_nil ?_
  refine nx_then ?_
  refine cd_seq ?_
  refine cd_region ?_
  refine st_val (ro_assign (v := .slice _ _ _) rfl) ?_
  refine st_nil ?_
  refine nx_then ?_
  refine cd_seq ?_
  refine cd_seq ?_
  refine cd_region ?_
  refine st_val (ro_move (v := .slice _ _ _) rfl) ?_
  refine st_val (ro_len RpcNums_l46 rfl) ?_
  refine st_val (ro_move (v := .int _ _) rfl) ?_
  refine st_nil ?_
  refine nx_then ?_
  refine cd_block ?_
  refine cd_loop (G := Nat × Option Addr × Nat) [2, 3, 6, 7, 8, 9, 13, 14, 15, 16, 17, 18, 19, 20, 21, 22, 23, 24, 25, 26, 27, 28, 29, 30, 31, 32, 33, 34, 35] (fun (j, A4, c4) => [(4, .slice A4 j c4), (12, .int .i64 (j : Nat))]) (fun (j, A4, c4) w' => j ≤ ss.length ∧ allN (ss.take j) ∧ w'.ownsRow w.heap.size 3 1 (.slice A4 j c4) j ((ss.take j).map fun s => .int .i64 (nv s : Nat)) ∧ From w w') (fun (j, _, _) => ss.length - j) ((0, none, 0)) ⟨rfl, rfl, trivial⟩ ?_ ?_
  · exact ⟨Nat.zero_le _, fun _ h => by simp at h, World.ownsRow_nil _ _ _ _, From.rfl_⟩
  rintro ⟨j, A4, c4⟩ ρ1 w1 ⟨hj, ha, ho, hB⟩
  refine cd_seq ?_
  refine cd_region ?_
  refine st_val (ro_lss rfl rfl) ?_
  refine st_nil ?_
  refine nx_then ?_
  refine cd_seq ?_
  refine cd_cond rfl (fun Q2 => ?_) (fun Q2 => ?_)
  · (try first | replace Q2 := bn_t Q2 | replace Q2 := bn_f Q2)
    (try first | replace Q2 := bx_t Q2 | replace Q2 := bx_f Q2 | replace Q2 := be_t Q2 | replace Q2 := be_f Q2 | replace Q2 := of_decide_eq_true Q2 | replace Q2 := of_decide_eq_false Q2)
    have hjx : j < ss.length := by omega
    obtain ⟨b, o, rfl, hcs⟩ := hr (by omega)
    have hsj := hs _ (List.getElem_mem hjx)
    first
     | (exfalso; first | omega | contradiction | (cases Q2; done))
     | skip
       refine cd_skip ?_
       refine nx_then ?_
       refine cd_seq ?_
       refine cd_block ?_
       refine cd_seq ?_
       refine cd_region ?_
       refine st_val (ro_indexAddr1 RpcNums_e46 rfl rfl (by omega)) ?_
       refine st_val (ro_load RpcNums_g9 rfl (by exact cellF hB (hcs j hjx))) ?_
       refine st_val (ro_assign (v := .string _) rfl) ?_
       refine st_nil ?_
       refine nx_then ?_
       refine cd_seq ?_
       refine cd_region ?_
       refine st_val (ro_move (v := .string _) rfl) ?_
       refine st_convB rfl (by omega) ?_
       intro A18 c18 w3 E18 hr18
       refine st_call RpcNums_k33 (getnum_w A18 c18 _ (strB ss[j]) (strB_lt _) _ hr18) ?_
       rintro v19 w4 ⟨rfl, rfl⟩
       rcases hN : getNum (strB ss[j]) with _ | ⟨n19, k19⟩
       · have hnq := numS_no hN
         refine st_val (ro_move (v := .tuple _) rfl) ?_
         refine st_val (ro_extract rfl rfl) ?_
         refine st_val (ro_extract rfl rfl) ?_
         refine st_val (ro_extract rfl rfl) ?_
         refine st_val (ro_assign (v := .int _ _) rfl) ?_
         refine st_val (ro_assign (v := .int _ _) rfl) ?_
         refine st_val (ro_assign (v := .int _ _) rfl) ?_
         refine st_nil ?_
         refine nx_then ?_
         refine cd_seq ?_
         refine cd_seq ?_
         refine cd_region ?_
         refine st_val (ro_move (v := .int _ _) rfl) ?_
         refine st_val (ro_neq rfl rfl) ?_
         refine st_val (ro_move (v := .bool _) rfl) ?_
         refine st_split (t := 25) rfl (fun Q5 => ?_) (fun Q5 => ?_)
         · (try first | replace Q5 := bn_t Q5 | replace Q5 := bn_f Q5)
           (try first | replace Q5 := bx_t Q5 | replace Q5 := bx_f Q5 | replace Q5 := be_t Q5 | replace Q5 := be_f Q5 | replace Q5 := of_decide_eq_true Q5 | replace Q5 := of_decide_eq_false Q5)
           first
            | (exfalso; first | omega | contradiction | (cases Q5; done))
            | skip
              refine st_gno rfl rfl ?_
              refine st_gno rfl rfl ?_
              refine st_gno rfl rfl ?_
              refine st_gno rfl rfl ?_
              refine st_val (ro_pickT (v := .bool _) rfl rfl) ?_
              refine st_nil ?_
              refine nx_then ?_
              refine cd_condT rfl ?_
              refine cd_seq ?_
              refine cd_region ?_
              refine st_val (ro_assign (v := .slice _ _ _) rfl) ?_
              refine st_val (ro_assign (v := .bool _) rfl) ?_
              refine st_nil ?_
              refine nx_then ?_
              refine cd_ret ?_
              refine rt_then ?_
              refine rt_block ?_
              refine rt_then ?_
              refine rt_then ?_
              refine rt_block ?_
              refine rt_then ?_
              refine res2 (v := .slice _ _ _) (v' := .bool _) rfl rfl rfl ?_
              first
                | exact ⟨.inr ⟨allN_not hjx hnq, rfl⟩, (hB.next E18)⟩
                | exact ⟨.inr ⟨allN_not hjx (numS_far hN (by omega)), rfl⟩, (hB.next E18)⟩
         · (try first | replace Q5 := bn_t Q5 | replace Q5 := bn_f Q5)
           (try first | replace Q5 := bx_t Q5 | replace Q5 := bx_f Q5 | replace Q5 := be_t Q5 | replace Q5 := be_f Q5 | replace Q5 := of_decide_eq_true Q5 | replace Q5 := of_decide_eq_false Q5)
           first
            | (exfalso; first | omega | contradiction | (cases Q5; done))
            | skip
              refine st_unguard rfl ?_
              refine st_val (ro_move (v := .int _ _) rfl) ?_
              refine st_unguard rfl ?_
              refine st_val (ro_move (v := .string _) rfl) ?_
              refine st_unguard rfl ?_
              refine st_val (ro_lenS (by kernel_rfl) rfl) ?_
              refine st_unguard rfl ?_
              refine st_val (ro_neq rfl rfl) ?_
              refine st_val (ro_pickF (v := .bool _) rfl rfl) ?_
              refine st_nil ?_
              refine nx_then ?_
              refine cd_cond rfl (fun Q6 => ?_) (fun Q6 => ?_)
              · (try first | replace Q6 := bn_t Q6 | replace Q6 := bn_f Q6)
                (try first | replace Q6 := bx_t Q6 | replace Q6 := bx_f Q6 | replace Q6 := be_t Q6 | replace Q6 := be_f Q6 | replace Q6 := of_decide_eq_true Q6 | replace Q6 := of_decide_eq_false Q6)
                first
                 | (exfalso; first | omega | contradiction | (cases Q6; done))
                 | skip
                   refine cd_seq ?_
                   refine cd_region ?_
                   refine st_val (ro_assign (v := .slice _ _ _) rfl) ?_
                   refine st_val (ro_assign (v := .bool _) rfl) ?_
                   refine st_nil ?_
                   refine nx_then ?_
                   refine cd_ret ?_
                   refine rt_then ?_
                   refine rt_block ?_
                   refine rt_then ?_
                   refine rt_then ?_
                   refine rt_block ?_
                   refine rt_then ?_
                   refine res2 (v := .slice _ _ _) (v' := .bool _) rfl rfl rfl ?_
                   first
                     | exact ⟨.inr ⟨allN_not hjx hnq, rfl⟩, (hB.next E18)⟩
                     | exact ⟨.inr ⟨allN_not hjx (numS_far hN (by omega)), rfl⟩, (hB.next E18)⟩
              · (try first | replace Q6 := bn_t Q6 | replace Q6 := bn_f Q6)
                (try first | replace Q6 := bx_t Q6 | replace Q6 := bx_f Q6 | replace Q6 := be_t Q6 | replace Q6 := be_f Q6 | replace Q6 := of_decide_eq_true Q6 | replace Q6 := of_decide_eq_false Q6)
                first
                 | (exfalso; first | omega | contradiction | (cases Q6; done))
                 | skip
                   refine cd_skip ?_
                   refine nx_then ?_
                   refine cd_region ?_
                   have hnq := numS_is hN (by omega)
                   refine st_val (ro_move (v := .slice _ _ _) rfl) ?_
                   refine st_val (ro_move (v := .int _ _) rfl) ?_
                   refine st_lit1 (v := .int _ _) RpcNums_q64 rfl rfl rfl ?_
                   intro b33 w7 E33 hb33 hk33
                   refine st_push1 (a0 := w) RpcNums_q64 rfl rfl (ho.kept_from (E18.next E33)) ((hB.next E18).next E33) rfl hk33 rfl (by omega) (by omega) ?_
                   intro A34 c34 w8 ho34 B34 hg34
                   refine st_val (ro_assign (v := .slice _ _ _) rfl) ?_
                   refine st_nil ?_
                   refine nx_block ?_
                   refine nx_then ?_
                   refine cd_region ?_
                   refine st_val (ro_addN (b := 1) rfl rfl (by omega)) ?_
                   refine st_val (ro_move (v := .int _ _) rfl) ?_
                   refine st_nil ?_
                   refine nx_cut ((j + 1, A34, c34)) ⟨(by first | rfl | (refine int_eq ?_; omega)), (by first | rfl | (refine int_eq ?_; omega)), trivial⟩ (by (iterate 61 refine agr_cons rfl ?_); exact agr_rfl) ⟨?_, ?_⟩
                   · exact ⟨by omega, nvs_take_ok hjx hnq ha, by rw [nvs_take hjx hnq]; exact ho34, B34⟩
                   · show ss.length - (j + 1) < ss.length - j; omega
       · refine st_val (ro_move (v := .tuple _) rfl) ?_
         refine st_val (ro_extract rfl rfl) ?_
         refine st_val (ro_extract rfl rfl) ?_
         refine st_val (ro_extract rfl rfl) ?_
         refine st_val (ro_assign (v := .int _ _) rfl) ?_
         refine st_val (ro_assign (v := .int _ _) rfl) ?_
         refine st_val (ro_assign (v := .int _ _) rfl) ?_
         refine st_nil ?_
         refine nx_then ?_
         refine cd_seq ?_
         refine cd_seq ?_
         refine cd_region ?_
         refine st_val (ro_move (v := .int _ _) rfl) ?_
         refine st_val (ro_neq rfl rfl) ?_
         refine st_val (ro_move (v := .bool _) rfl) ?_
         refine st_split (t := 25) rfl (fun Q9 => ?_) (fun Q9 => ?_)
         · (try first | replace Q9 := bn_t Q9 | replace Q9 := bn_f Q9)
           (try first | replace Q9 := bx_t Q9 | replace Q9 := bx_f Q9 | replace Q9 := be_t Q9 | replace Q9 := be_f Q9 | replace Q9 := of_decide_eq_true Q9 | replace Q9 := of_decide_eq_false Q9)
           first
            | (exfalso; first | omega | contradiction | (cases Q9; done))
            | skip
              refine st_gno rfl rfl ?_
              refine st_gno rfl rfl ?_
              refine st_gno rfl rfl ?_
              refine st_gno rfl rfl ?_
              refine st_val (ro_pickT (v := .bool _) rfl rfl) ?_
              refine st_nil ?_
              refine nx_then ?_
              refine cd_condT rfl ?_
              refine cd_seq ?_
              refine cd_region ?_
              refine st_val (ro_assign (v := .slice _ _ _) rfl) ?_
              refine st_val (ro_assign (v := .bool _) rfl) ?_
              refine st_nil ?_
              refine nx_then ?_
              refine cd_ret ?_
              refine rt_then ?_
              refine rt_block ?_
              refine rt_then ?_
              refine rt_then ?_
              refine rt_block ?_
              refine rt_then ?_
              refine res2 (v := .slice _ _ _) (v' := .bool _) rfl rfl rfl ?_
              first
                | exact ⟨.inr ⟨allN_not hjx hnq, rfl⟩, (hB.next E18)⟩
                | exact ⟨.inr ⟨allN_not hjx (numS_far hN (by omega)), rfl⟩, (hB.next E18)⟩
         · (try first | replace Q9 := bn_t Q9 | replace Q9 := bn_f Q9)
           (try first | replace Q9 := bx_t Q9 | replace Q9 := bx_f Q9 | replace Q9 := be_t Q9 | replace Q9 := be_f Q9 | replace Q9 := of_decide_eq_true Q9 | replace Q9 := of_decide_eq_false Q9)
           first
            | (exfalso; first | omega | contradiction | (cases Q9; done))
            | skip
              refine st_unguard rfl ?_
              refine st_val (ro_move (v := .int _ _) rfl) ?_
              refine st_unguard rfl ?_
              refine st_val (ro_move (v := .string _) rfl) ?_
              refine st_unguard rfl ?_
              refine st_val (ro_lenS (by kernel_rfl) rfl) ?_
              refine st_unguard rfl ?_
              refine st_val (ro_neq rfl rfl) ?_
              refine st_val (ro_pickF (v := .bool _) rfl rfl) ?_
              refine st_nil ?_
              refine nx_then ?_
              refine cd_cond rfl (fun Q10 => ?_) (fun Q10 => ?_)
              · (try first | replace Q10 := bn_t Q10 | replace Q10 := bn_f Q10)
                (try first | replace Q10 := bx_t Q10 | replace Q10 := bx_f Q10 | replace Q10 := be_t Q10 | replace Q10 := be_f Q10 | replace Q10 := of_decide_eq_true Q10 | replace Q10 := of_decide_eq_false Q10)
                first
                 | (exfalso; first | omega | contradiction | (cases Q10; done))
                 | skip
                   refine cd_seq ?_
                   refine cd_region ?_
                   refine st_val (ro_assign (v := .slice _ _ _) rfl) ?_
                   refine st_val (ro_assign (v := .bool _) rfl) ?_
                   refine st_nil ?_
                   refine nx_then ?_
                   refine cd_ret ?_
                   refine rt_then ?_
                   refine rt_block ?_
                   refine rt_then ?_
                   refine rt_then ?_
                   refine rt_block ?_
                   refine rt_then ?_
                   refine res2 (v := .slice _ _ _) (v' := .bool _) rfl rfl rfl ?_
                   first
                     | exact ⟨.inr ⟨allN_not hjx hnq, rfl⟩, (hB.next E18)⟩
                     | exact ⟨.inr ⟨allN_not hjx (numS_far hN (by omega)), rfl⟩, (hB.next E18)⟩
              · (try first | replace Q10 := bn_t Q10 | replace Q10 := bn_f Q10)
                (try first | replace Q10 := bx_t Q10 | replace Q10 := bx_f Q10 | replace Q10 := be_t Q10 | replace Q10 := be_f Q10 | replace Q10 := of_decide_eq_true Q10 | replace Q10 := of_decide_eq_false Q10)
                first
                 | (exfalso; first | omega | contradiction | (cases Q10; done))
                 | skip
                   refine cd_skip ?_
                   refine nx_then ?_
                   refine cd_region ?_
                   have hnq := numS_is hN (by omega)
                   refine st_val (ro_move (v := .slice _ _ _) rfl) ?_
                   refine st_val (ro_move (v := .int _ _) rfl) ?_
                   refine st_lit1 (v := .int _ _) RpcNums_q64 rfl rfl rfl ?_
                   intro b33 w11 E33 hb33 hk33
                   refine st_push1 (a0 := w) RpcNums_q64 rfl rfl (ho.kept_from (E18.next E33)) ((hB.next E18).next E33) rfl hk33 rfl (by omega) (by omega) ?_
                   intro A34 c34 w12 ho34 B34 hg34
                   refine st_val (ro_assign (v := .slice _ _ _) rfl) ?_
                   refine st_nil ?_
                   refine nx_block ?_
                   refine nx_then ?_
                   refine cd_region ?_
                   refine st_val (ro_addN (b := 1) rfl rfl (by omega)) ?_
                   refine st_val (ro_move (v := .int _ _) rfl) ?_
                   refine st_nil ?_
                   refine nx_cut ((j + 1, A34, c34)) ⟨(by first | rfl | (refine int_eq ?_; omega)), (by first | rfl | (refine int_eq ?_; omega)), trivial⟩ (by (iterate 61 refine agr_cons rfl ?_); exact agr_rfl) ⟨?_, ?_⟩
                   · exact ⟨by omega, nvs_take_ok hjx hnq ha, by rw [nvs_take hjx hnq]; exact ho34, B34⟩
                   · show ss.length - (j + 1) < ss.length - j; omega
  · (try first | replace Q2 := bn_t Q2 | replace Q2 := bn_f Q2)
    (try first | replace Q2 := bx_t Q2 | replace Q2 := bx_f Q2 | replace Q2 := be_t Q2 | replace Q2 := be_f Q2 | replace Q2 := of_decide_eq_true Q2 | replace Q2 := of_decide_eq_false Q2)
    obtain rfl : j = ss.length := by omega
    rw [List.take_length] at ha ho
    first
     | (exfalso; first | omega | contradiction | (cases Q2; done))
     | skip
       refine cd_exit ?_
       refine ex_then ?_
       refine ex_then ?_
       refine ex_block ?_
       refine nx_then ?_
       refine cd_seq ?_
       refine cd_region ?_
       refine st_val (ro_move (v := .slice _ _ _) rfl) ?_
       refine st_val (ro_assign (v := .slice _ _ _) rfl) ?_
       refine st_val (ro_assign (v := .bool _) rfl) ?_
       refine st_nil ?_
       refine nx_then ?_
       refine cd_ret ?_
       refine res2 (v := .slice _ _ _) (v' := .bool _) rfl rfl rfl ?_
       subst hn
       exact ⟨.inl ⟨ha, A4, c4, rfl, ho⟩, hB⟩
end Go.Proofs.YtjliefglelcooaaDoor

namespace Go.Proofs.YtjliefglelcooaaDoor
open Go.RowKit

abbrev PT := List (Nat × Nat × ((Nat → Bool) → Value → World → Prop))
def InvP (L : List (Nat × Value)) (T : PT) (S : Nat → Bool) (L' : List (Nat × Value)) (w : World) : Prop :=
  (∀ t, (∀ p ∈ T, p.2.1 ≠ t) → look L' t = look L t) ∧ (∀ p ∈ T, S p.1 = true → p.2.2 S (look L' p.2.1) w) ∧ ∀ p ∈ T, S p.1 = false → look L' p.2.1 = look L p.2.1
def UniP : List (Nat × Nat) → Prop
  | [] => True
  | p :: r => (∀ q ∈ r, q.1 ≠ p.1 ∧ q.2 ≠ p.2) ∧ UniP r
def uniB : List (Nat × Nat) → Bool
  | [] => true
  | p :: r => (r.all fun q => !(Nat.beq q.1 p.1) && !(Nat.beq q.2 p.2)) && uniB r
theorem nbeq_f {a b : Nat} : Nat.beq a b = false ↔ a ≠ b := by
  refine ⟨fun h e => ?_, fun h => ?_⟩
  · subst e
    rw [Nat.beq_refl] at h
    cases h
  · rcases hb : Nat.beq a b with _ | _
    · rfl
    · exact absurd (Nat.eq_of_beq_eq_true hb) h
theorem uniP_of : ∀ {l : List (Nat × Nat)}, uniB l = true → UniP l
  | [], _ => trivial
  | p :: r, h => by
    simp only [uniB, Bool.and_eq_true, List.all_eq_true, Bool.not_eq_true', nbeq_f] at h
    exact ⟨fun q hq => h.1 q hq, uniP_of h.2⟩
theorem uniP_eq : ∀ {T : PT}, UniP (T.map fun p => (p.1, p.2.1)) → ∀ {p q : Nat × Nat × ((Nat → Bool) → Value → World → Prop)}, p ∈ T → q ∈ T → p.1 = q.1 ∨ p.2.1 = q.2.1 → p = q
  | _ :: _, ⟨h1, h2⟩, p, q, hp, hq, he => by
    rcases List.mem_cons.1 hp with rfl | hp' <;> rcases List.mem_cons.1 hq with rfl | hq'
    · rfl
    · rcases he with e | e
      · exact absurd e.symm (h1 _ (List.mem_map_of_mem (f := fun p => (p.1, p.2.1)) hq')).1
      · exact absurd e.symm (h1 _ (List.mem_map_of_mem (f := fun p => (p.1, p.2.1)) hq')).2
    · rcases he with e | e
      · exact absurd e (h1 _ (List.mem_map_of_mem (f := fun p => (p.1, p.2.1)) hp')).1
      · exact absurd e (h1 _ (List.mem_map_of_mem (f := fun p => (p.1, p.2.1)) hp')).2
    · exact uniP_eq h2 hp' hq' he
theorem InvP.get {L : List (Nat × Value)} {T : PT} {S : Nat → Bool} {L' : List (Nat × Value)} {w : World} {i d : Nat} {R : (Nat → Bool) → Value → World → Prop} (h : InvP L T S L' w) (hp : (i, d, R) ∈ T) (hs : S i = true) : ∃ v, look L' d = v ∧ R S v w := ⟨_, rfl, h.2.1 _ hp hs⟩
theorem InvP.old {L : List (Nat × Value)} {T : PT} {S : Nat → Bool} {L' : List (Nat × Value)} {w : World} {i d : Nat} {R : (Nat → Bool) → Value → World → Prop} (h : InvP L T S L' w) (hp : (i, d, R) ∈ T) (hs : S i = false) : look L' d = look L d := h.2.2 _ hp hs
theorem setF {S : Nat → Bool} {i k : Nat} (h : setB S i k = false) : S k = false := by
  unfold setB at h
  split at h
  · cases h
  · exact h
theorem setT {S : Nat → Bool} {i k : Nat} (hk : k ≠ i) (h : setB S i k = true) : S k = true := by
  unfold setB at h
  rwa [if_neg hk] at h
theorem setS (S : Nat → Bool) (i : Nat) : setB S i i = true := by unfold setB; rw [if_pos rfl]
theorem setN {S : Nat → Bool} {i k : Nat} (hk : k ≠ i) : setB S i k = S k := by unfold setB; rw [if_neg hk]
/-- what is said of the slots stays, by an operation that only adds -/
def MonoP (Mu : List Nat) : PT → Prop
  | [] => True
  | p :: r => (∀ S i v w1 w2, Mu.elem i = false → From w1 w2 → p.2.2 S v w1 → p.2.2 (setB S i) v w2) ∧ MonoP Mu r
/-- what is said of the other slots stays, by this change -/
def ChP (i : Nat) (S : Nat → Bool) (w1 w2 : World) : PT → Prop
  | [] => True
  | p :: r => (Nat.beq p.1 i = false → S p.1 = true → ∀ v, p.2.2 S v w1 → p.2.2 (setB S i) v w2) ∧ ChP i S w1 w2 r
theorem monoP_at {Mu : List Nat} : ∀ {T : PT}, MonoP Mu T → ∀ p ∈ T, ∀ S i v w1 w2, Mu.elem i = false → From w1 w2 → p.2.2 S v w1 → p.2.2 (setB S i) v w2
  | _ :: _, ⟨h1, h2⟩, p, hp => by
    rcases List.mem_cons.1 hp with rfl | hp
    · exact h1
    · exact monoP_at h2 p hp
theorem chP_at {i : Nat} {S : Nat → Bool} {w1 w2 : World} : ∀ {T : PT}, ChP i S w1 w2 T → ∀ p ∈ T, p.1 ≠ i → S p.1 = true → ∀ v, p.2.2 S v w1 → p.2.2 (setB S i) v w2
  | _ :: _, ⟨h1, h2⟩, p, hp => by
    rcases List.mem_cons.1 hp with rfl | hp
    · exact fun hne => h1 (by rw [nbeq_f]; exact hne)
    · exact chP_at h2 p hp
theorem InvP.next {L : List (Nat × Value)} {T : PT} {S : Nat → Bool} {L' : List (Nat × Value)} {w w' : World} {i d : Nat} {v : Value} {R : (Nat → Bool) → Value → World → Prop} (h : InvP L T S L' w) (hU : UniP (T.map fun p => (p.1, p.2.1))) (hp : (i, d, R) ∈ T) (hR : R (setB S i) v w')
    (hst : ∀ p ∈ T, p.1 ≠ i → S p.1 = true → ∀ v, p.2.2 S v w → p.2.2 (setB S i) v w') : InvP L T (setB S i) ((d, v) :: L') w' := by
  refine ⟨fun t ht => ?_, fun p hq hs => ?_, fun p hq hs => ?_⟩
  · rw [look_cons, if_neg (fun e => ht _ hp e.symm)]
    exact h.1 t ht
  · rw [look_cons]
    by_cases e : p.2.1 = d
    · rw [if_pos e, uniP_eq hU hq hp (.inr e)]
      exact hR
    · rw [if_neg e]
      have e2 : p.1 ≠ i := fun e2 => e (congrArg (·.2.1) (uniP_eq hU hq hp (.inl e2)))
      have hs' := setT e2 hs
      exact hst p hq e2 hs' _ (h.2.1 p hq hs')
  · have hs' := setF hs
    have e2 : p.1 ≠ i := fun e2 => by rw [e2, setS] at hs; cases hs
    rw [look_cons, if_neg (fun e => e2 (congrArg (·.1) (uniP_eq hU hq hp (.inr e))))]
    exact h.2.2 p hq hs'
theorem InvP.same {L : List (Nat × Value)} {T : PT} {S : Nat → Bool} {L' : List (Nat × Value)} {w w' : World} {i : Nat} (h : InvP L T S L' w) (hi : ∀ p ∈ T, p.1 ≠ i)
    (hst : ∀ p ∈ T, p.1 ≠ i → S p.1 = true → ∀ v, p.2.2 S v w → p.2.2 (setB S i) v w') : InvP L T (setB S i) L' w' := by
  refine ⟨h.1, fun p hq hs => ?_, fun p hq hs => h.2.2 p hq (setF hs)⟩
  have hs' := setT (hi p hq) hs
  exact hst p hq (hi p hq) hs' _ (h.2.1 p hq hs')
/-- the slots that an operation looks at, with their values -/
def AgrM (L' : List (Nat × Value)) : List (Nat × Value) → Prop
  | [] => True
  | (t, v) :: r => look L' t = v ∧ AgrM L' r
theorem agrM_look {L' : List (Nat × Value)} : ∀ {M : List (Nat × Value)}, AgrM L' M → ∀ t, (M.map Prod.fst).elem t = true → look M t = look L' t
  | (k, v) :: r, ⟨h1, h2⟩, t, ht => by
    rw [look_cons]
    by_cases e : t = k
    · rw [if_pos e, e, h1]
    · rw [if_neg e]
      refine agrM_look h2 t ?_
      simpa [e] using ht
section
variable {P : Program} {Q : Exit → Act → World → Prop} {n : Nat} {L L' M : List (Nat × Value)} {w w' w'' : World} {l : List Oper} {T : PT} {Mem : (Nat → Bool) → World → Prop} {Mu : List Nat} {S : Nat → Bool} {op : Op} {ty : TypeId} {pos : String} {after : Array Edge} {i d : Nat} {v : Value} {R : (Nat → Bool) → Value → World → Prop}
theorem exec_agr {dst : Option Nat} (hs : isSelect op = false) (hk : (((⟨dst, op, ty, pos, after, none⟩ : Oper).looksAt #[]).all fun t => (M.map Prod.fst).elem t) = true) (hag : AgrM L' M) : execOp (ev n L') ⟨dst, op, ty, pos, after, none⟩ = execOp (ev n M) ⟨dst, op, ty, pos, after, none⟩ := by
  have h : ∀ t, ((⟨dst, op, ty, pos, after, none⟩ : Oper).looksAt #[]).elem t = true → look M t = look L' t := fun t ht =>
    agrM_look hag t (List.all_eq_true.1 hk t (List.elem_iff.1 ht))
  exact (looksAt_agree (n := n) (ops := #[]) (o := ⟨dst, op, ty, pos, after, none⟩) hs h).1.symm
abbrev StepJ (P : Program) (n : Nat) (L : List (Nat × Value)) (T : PT) (Mem : (Nat → Bool) → World → Prop) (S : Nat → Bool) (i : Nat) (o : Oper) (L' : List (Nat × Value)) (w' : World) : Prop := StepI P n o (fun L2 w2 => InvP L T (setB S i) L2 w2 ∧ Mem (setB S i) w2) L' w'
theorem quietP (hmo : MonoP Mu T) (hq : Mu.elem i = false) (hF : From w' w'') : ∀ p ∈ T, p.1 ≠ i → S p.1 = true → ∀ v, p.2.2 S v w' → p.2.2 (setB S i) v w'' := fun p hp _ _ v h => monoP_at hmo p hp S i v w' w'' hq hF h
theorem stepQ_ro (M : List (Nat × Value)) (hU : UniP (T.map fun p => (p.1, p.2.1))) (hmo : MonoP Mu T) (hme : ∀ S i w1 w2, Mu.elem i = false → From w1 w2 → Mem S w1 → Mem (setB S i) w2) (hI : InvP L T S L' w') (hM : Mem S w') (hp : (i, d, R) ∈ T) (hq : Mu.elem i = false)
    (hs : isSelect op = false) (hk : (((⟨some d, op, ty, pos, after, none⟩ : Oper).looksAt #[]).all fun t => (M.map Prod.fst).elem t) = true) (hag : AgrM L' M) (hr : RO P (ev n M) op w' v w'') (hF : From w' w'') (hR : R (setB S i) v w'') : StepJ P n L T Mem S i ⟨some d, op, ty, pos, after, none⟩ L' w' :=
  .inl ⟨d, v, w'', rfl, by rw [exec_agr hs hk hag]; exact hr _ _ _ _ _, hI.next hU hp hR (quietP hmo hq hF), hme S i _ _ hq hF hM⟩
theorem stepQ_call (M : List (Nat × Value)) {f : FuncId} {al : List Operand} {ats : Array TypeId} (hU : UniP (T.map fun p => (p.1, p.2.1))) (hmo : MonoP Mu T) (hme : ∀ S i w1 w2, Mu.elem i = false → From w1 w2 → Mem S w1 → Mem (setB S i) w2) (hI : InvP L T S L' w') (hM : Mem S w') (hp : (i, d, R) ∈ T) (hq : Mu.elem i = false)
    (hk : (((⟨some d, .call { callee := .value (.func f), args := al.toArray, argTypes := ats }, ty, pos, after, none⟩ : Oper).looksAt #[]).all fun t => (M.map Prod.fst).elem t) = true) (hag : AgrM L' M) (hf : callable P f = true) (hc : Rt P f (al.map (ev n M)) w' fun v w'' => From w' w'' ∧ R (setB S i) v w'') :
    StepJ P n L T Mem S i ⟨some d, .call { callee := .value (.func f), args := al.toArray, argTypes := ats }, ty, pos, after, none⟩ L' w' :=
  .inr (.inr ⟨d, f, al.map (ev n M), rfl, by rw [exec_agr rfl hk hag, exec_call (fun _ => rfl), run_call hf], Calls.mono hc fun e w2 ⟨v, he, hF, hR⟩ => ⟨v, he, hI.next hU hp hR (quietP hmo hq hF), hme S i _ _ hq hF hM⟩⟩)
theorem stepM_ro (M : List (Nat × Value)) (hU : UniP (T.map fun p => (p.1, p.2.1))) (hI : InvP L T S L' w') (hp : (i, d, R) ∈ T)
    (hs : isSelect op = false) (hk : (((⟨some d, op, ty, pos, after, none⟩ : Oper).looksAt #[]).all fun t => (M.map Prod.fst).elem t) = true) (hag : AgrM L' M) (hr : RO P (ev n M) op w' v w'') (hM : Mem (setB S i) w'') (hR : R (setB S i) v w'') (hC : ChP i S w' w'' T) : StepJ P n L T Mem S i ⟨some d, op, ty, pos, after, none⟩ L' w' :=
  .inl ⟨d, v, w'', rfl, by rw [exec_agr hs hk hag]; exact hr _ _ _ _ _, hI.next hU hp hR (chP_at hC), hM⟩
theorem stepM_call (M : List (Nat × Value)) {f : FuncId} {al : List Operand} {ats : Array TypeId} (hU : UniP (T.map fun p => (p.1, p.2.1))) (hI : InvP L T S L' w') (hp : (i, d, R) ∈ T)
    (hk : (((⟨some d, .call { callee := .value (.func f), args := al.toArray, argTypes := ats }, ty, pos, after, none⟩ : Oper).looksAt #[]).all fun t => (M.map Prod.fst).elem t) = true) (hag : AgrM L' M) (hf : callable P f = true) (hc : Rt P f (al.map (ev n M)) w' fun v w'' => Mem (setB S i) w'' ∧ R (setB S i) v w'' ∧ ChP i S w' w'' T) :
    StepJ P n L T Mem S i ⟨some d, .call { callee := .value (.func f), args := al.toArray, argTypes := ats }, ty, pos, after, none⟩ L' w' :=
  .inr (.inr ⟨d, f, al.map (ev n M), rfl, by rw [exec_agr rfl hk hag, exec_call (fun _ => rfl), run_call hf], Calls.mono hc fun e w2 ⟨v, he, hM, hR, hC⟩ => ⟨v, he, hI.next hU hp hR (chP_at hC), hM⟩⟩)
theorem stepM_rs (M : List (Nat × Value)) (hI : InvP L T S L' w') (hi : ∀ p ∈ T, p.1 ≠ i)
    (hs : isSelect op = false) (hk : (((⟨none, op, ty, pos, after, none⟩ : Oper).looksAt #[]).all fun t => (M.map Prod.fst).elem t) = true) (hag : AgrM L' M) (hr : RS P (ev n M) op w' w'') (hM : Mem (setB S i) w'') (hC : ChP i S w' w'' T) : StepJ P n L T Mem S i ⟨none, op, ty, pos, after, none⟩ L' w' :=
  .inr (.inl ⟨w'', rfl, by rw [exec_agr hs hk hag]; exact hr _ _ _ _ _, hI.same hi (chP_at hC), hM⟩)
/-- for whatever values of the slots that fit -/
def AllP (S : Nat → Bool) (w : World) : PT → (List (Nat × Value) → Prop) → Prop
  | [], K => K []
  | p :: r, K => ∀ v, p.2.2 S v w → AllP S w r fun M => K ((p.2.1, v) :: M)
theorem allP_nil {S : Nat → Bool} {w : World} {K : List (Nat × Value) → Prop} (h : K []) : AllP S w [] K := h
theorem allP_at {S : Nat → Bool} {w : World} (ρ : Nat → Value) : ∀ (l : PT) {K : List (Nat × Value) → Prop}, (∀ p ∈ l, p.2.2 S (ρ p.2.1) w) → AllP S w l K → K (l.map fun p => (p.2.1, ρ p.2.1))
  | [], _, _, h => h
  | p :: r, _, hr, h => allP_at ρ r (fun e he => hr e (List.mem_cons_of_mem _ he)) (h (ρ p.2.1) (hr p (List.mem_cons_self ..)))
theorem look_mapP (ρ : Nat → Value) (T : PT) (L : List (Nat × Value)) (t : Nat) : ((∃ p ∈ T, p.2.1 = t) ∧ look (T.map (fun p => (p.2.1, ρ p.2.1)) ++ L) t = ρ t) ∨ ((∀ p ∈ T, p.2.1 ≠ t) ∧ look (T.map (fun p => (p.2.1, ρ p.2.1)) ++ L) t = look L t) := by
  induction T with
  | nil => exact .inr ⟨fun p hp => by simp at hp, rfl⟩
  | cons q r ih =>
    rw [List.map_cons, List.cons_append, look_cons]
    by_cases e : t = q.2.1
    · rw [if_pos e, ← e]
      exact .inl ⟨⟨q, .head _, e.symm⟩, rfl⟩
    · rw [if_neg e]
      rcases ih with ⟨⟨p, hp, h1⟩, h2⟩ | ⟨h1, h2⟩
      · exact .inl ⟨⟨p, .tail _ hp, h1⟩, h2⟩
      · refine .inr ⟨fun p hp => ?_, h2⟩
        rcases List.mem_cons.1 hp with rfl | hp2
        · exact fun e2 => e e2.symm
        · exact h1 p hp2
theorem outP {T : PT} {t : Nat} (h : (T.map fun p => p.2.1).elem t = false) : ∀ p ∈ T, p.2.1 ≠ t := fun p hp e => by
  have : t ∈ T.map fun p => p.2.1 := List.mem_map.2 ⟨p, hp, e⟩
  rw [List.elem_eq_mem, decide_eq_false_iff_not] at h
  exact h this
theorem idxP {T : PT} {i : Nat} (h : (T.map fun p => p.1).elem i = false) : ∀ p ∈ T, p.1 ≠ i := fun p hp e => by
  have : i ∈ T.map fun p => p.1 := List.mem_map.2 ⟨p, hp, e⟩
  rw [List.elem_eq_mem, decide_eq_false_iff_not] at h
  exact h this
theorem StepI.mono {o : Oper} {I1 I2 : List (Nat × Value) → World → Prop} (hi : ∀ L2 w2, I1 L2 w2 → I2 L2 w2) (h : StepI P n o I1 L' w') : StepI P n o I2 L' w' := by
  rcases h with ⟨d, v, w2, h1, h2, h3⟩ | ⟨w2, h1, h2, h3⟩ | ⟨d, f, args, h1, h2, h3⟩
  · exact .inl ⟨d, v, w2, h1, h2, hi _ _ h3⟩
  · exact .inr (.inl ⟨w2, h1, h2, hi _ _ h3⟩)
  · exact .inr (.inr ⟨d, f, args, h1, h2, Calls.mono h3 fun e w2 ⟨v, he, h⟩ => ⟨v, he, hi _ _ h⟩⟩)
/-- what has run has all run that it waits for -/
def ClosedI (l : List Oper) (S : Nat → Bool) : Prop := ∀ j o, l[j]? = some o → S j = true → ∀ e ∈ o.after, Region.binds .any e = true → S e.on = true
theorem closed_old {j i : Nat} {o : Oper} (hC : ClosedI l S) (ho : l[j]? = some o) (he : (o.after.toList.any fun e => Region.binds .any e && Nat.beq e.on i) = true) (hS : S i = false) : S j = false := by
  rcases hj : S j with _ | _
  · rfl
  · obtain ⟨e, h1, h2⟩ := List.any_eq_true.1 he
    rw [Bool.and_eq_true] at h2
    have := hC j o ho hj e (by simpa using h1) h2.1
    rw [Nat.eq_of_beq_eq_true h2.2, hS] at this
    cases this
theorem closedI_set {i : Nat} {o : Oper} (hC : ClosedI l S) (ho : l[i]? = some o) (hE : ∀ e ∈ o.after, Region.binds .any e = true → S e.on = true) : ClosedI l (setB S i) := fun j o' hj hs e he hb => by
  have up : ∀ k, S k = true → setB S i k = true := fun k hk => by
    unfold setB
    split
    · rfl
    · exact hk
  by_cases hji : j = i
  · subst hji
    rw [ho] at hj
    cases hj
    exact up _ (hE e he hb)
  · exact up _ (hC j o' hj (setT hji hs) e he hb)
def StepsP (P : Program) (n : Nat) (L : List (Nat × Value)) (T : PT) (Mu : List Nat) (Mem : (Nat → Bool) → World → Prop) (l : List Oper) : Nat → List Oper → Prop
  | _, [] => True
  | i, o :: r => (∀ S L' w', UniP (T.map fun p => (p.1, p.2.1)) → MonoP Mu T → (∀ S i w1 w2, Mu.elem i = false → From w1 w2 → Mem S w1 → Mem (setB S i) w2) → InvP L T S L' w' → Mem S w' → ClosedI l S → S i = false → EdgesOn S o.after.toList → StepJ P n L T Mem S i o L' w') ∧ StepsP P n L T Mu Mem l (i + 1) r
theorem stepsP_at {L0 : List (Nat × Value)} {l0 : List Oper} : ∀ {r : List Oper} {k : Nat}, StepsP P n L0 T Mu Mem l0 k r → UniP (T.map fun p => (p.1, p.2.1)) → MonoP Mu T → (∀ S i w1 w2, Mu.elem i = false → From w1 w2 → Mem S w1 → Mem (setB S i) w2) → ∀ (i : Nat) (o : Oper), r[i]? = some o → ∀ S L' w', InvP L0 T S L' w' → Mem S w' → ClosedI l0 S → S (k + i) = false → EdgesOn S o.after.toList → StepJ P n L0 T Mem S (k + i) o L' w'
  | [], _, _, _, _, _, i, o, h => by simp at h
  | x :: r, k, ⟨h1, h2⟩, a, b, c, 0, o, h => by
    simp only [List.getElem?_cons_zero, Option.some.injEq] at h
    subst h
    exact fun S L' w' => h1 S L' w' a b c
  | x :: r, k, ⟨h1, h2⟩, a, b, c, i + 1, o, h => by
    have := stepsP_at h2 a b c i o (by simpa using h)
    rwa [show k + 1 + i = k + (i + 1) by omega] at this
theorem cd_invP {id : Nat} (T : PT) (Mu : List Nat) (Mem : (Nat → Bool) → World → Prop) (hm : P.follows .mixedOrders = true) (hwf : edgesB l = true) (hlt : (T.all fun p => Nat.blt p.1 l.length) = true) (hU : uniB (T.map fun p => (p.1, p.2.1)) = true) (hmo : MonoP Mu T) (hme : ∀ S i w1 w2, Mu.elem i = false → From w1 w2 → Mem S w1 → Mem (setB S i) w2) (h0 : Mem (fun _ => false) { w with drawn := w.drawn + 1 })
    (hstep : StepsP P n L T Mu Mem l 0 l) (hend : ∀ w', Mem (fun i => decide (i < l.length)) w' → AllP (fun i => decide (i < l.length)) w' T fun M => Q .normal (mkA n (M ++ L)) w') : Cd P (.region id l.toArray true) Q n L w :=
  cd_inv (fun S L' w' => InvP L T S L' w' ∧ Mem S w' ∧ ClosedI l S) hm hwf ⟨⟨fun _ _ => rfl, fun _ _ h => (by cases h), fun _ _ _ => rfl⟩, h0, fun _ _ _ h => by cases h⟩ (fun i o S L' w' ho ⟨hI, hM, hC⟩ hS hE => by
    have := stepsP_at hstep (uniP_of hU) hmo hme i o ho S L' w' hI hM hC (by rw [Nat.zero_add]; exact hS) (edges_on fun e he => hE e (by simpa using he))
    rw [Nat.zero_add] at this
    exact StepI.mono (fun L2 w2 h => ⟨h.1, h.2, closedI_set hC ho hE⟩) this) fun L' w' ⟨hI, hM, _⟩ => by
    have hlt' : ∀ p ∈ T, p.1 < l.length := fun p hp => by
      have := List.all_eq_true.1 hlt p hp
      exact Nat.le_of_ble_eq_true this
    have h := allP_at (look L') T (fun p hp => hI.2.1 p hp (decide_eq_true (hlt' p hp))) (hend w' hM)
    have e : mkA n L' = mkA n (T.map (fun p => (p.2.1, look L' p.2.1)) ++ L) := by
      unfold mkA
      rw [mkT_congr fun t _ => ?_]
      rcases look_mapP (look L') T L t with ⟨_, h2⟩ | ⟨h1, h2⟩
      · exact h2.symm
      · rw [h2]; exact hI.1 t h1
    rw [e]
    exact h
end
end Go.Proofs.YtjliefglelcooaaDoor

namespace Go.Proofs.YtjliefglelcooaaDoor
open Go.RowKit
open Go.ChangeShapes Go.WideShapes Go.ChangeAt
theorem RpcEnc_q64 : litQ Tryd.prog 64 = some (3, 1, 8, (.int .i64 0)) := by kernel_rfl
theorem RpcEnc_q46 : litQ Tryd.prog 46 = some (9, 1, 16, (.string ⟨#[]⟩)) := by kernel_rfl
theorem RpcEnc_g27 : aggQ Tryd.prog 27 = some true := by kernel_rfl
theorem RpcEnc_z27 : sizeQ Tryd.prog 27 = some 13 := by kernel_rfl
theorem RpcEnc_k13 : callable Tryd.prog 13 = true := by kernel_rfl
theorem RpcEnc_f27_0 : fieldQ Tryd.prog 27 0 = some 0 := by kernel_rfl
theorem RpcEnc_g3 : aggQ Tryd.prog 3 = some false := by kernel_rfl
theorem RpcEnc_f27_1 : fieldQ Tryd.prog 27 1 = some 1 := by kernel_rfl
theorem RpcEnc_f27_2 : fieldQ Tryd.prog 27 2 = some 2 := by kernel_rfl
theorem RpcEnc_f27_3 : fieldQ Tryd.prog 27 3 = some 3 := by kernel_rfl
theorem RpcEnc_f27_4 : fieldQ Tryd.prog 27 4 = some 4 := by kernel_rfl
theorem RpcEnc_f27_5 : fieldQ Tryd.prog 27 5 = some 5 := by kernel_rfl
theorem RpcEnc_f27_6 : fieldQ Tryd.prog 27 6 = some 6 := by kernel_rfl
theorem RpcEnc_f27_7 : fieldQ Tryd.prog 27 7 = some 7 := by kernel_rfl
theorem RpcEnc_f27_10 : fieldQ Tryd.prog 27 10 = some 10 := by kernel_rfl
theorem RpcEnc_f27_8 : fieldQ Tryd.prog 27 8 = some 8 := by kernel_rfl
theorem RpcEnc_g4 : aggQ Tryd.prog 4 = some false := by kernel_rfl
theorem RpcEnc_k21 : callable Tryd.prog 21 = true := by kernel_rfl
theorem RpcEnc_f27_12 : fieldQ Tryd.prog 27 12 = some 12 := by kernel_rfl
theorem RpcEnc_k20 : callable Tryd.prog 20 = true := by kernel_rfl
theorem RpcEnc_f27_11 : fieldQ Tryd.prog 27 11 = some 11 := by kernel_rfl
theorem RpcEnc_g9 : aggQ Tryd.prog 9 = some false := by kernel_rfl
theorem RpcEnc_f27_9 : fieldQ Tryd.prog 27 9 = some 9 := by kernel_rfl
theorem RpcEnc_g25 : aggQ Tryd.prog 25 = some false := by kernel_rfl
theorem RpcEnc_l25 : (elemQ Tryd.prog 25).isSome = true := by kernel_rfl
theorem RpcEnc_e25 : elemQ Tryd.prog 25 = some (41, 3) := by kernel_rfl
theorem RpcEnc_g41 : aggQ Tryd.prog 41 = some true := by kernel_rfl
theorem RpcEnc_z41 : sizeQ Tryd.prog 41 = some 3 := by kernel_rfl
theorem RpcEnc_o41 : zeroQ Tryd.prog 41 = some (.agg #[.int .i64 0, .int .i64 0, .string ⟨#[]⟩]) := by kernel_rfl
theorem RpcEnc_f41_0 : fieldQ Tryd.prog 41 0 = some 0 := by kernel_rfl
theorem RpcEnc_f41_1 : fieldQ Tryd.prog 41 1 = some 1 := by kernel_rfl
theorem RpcEnc_f41_2 : fieldQ Tryd.prog 41 2 = some 2 := by kernel_rfl
theorem RpcEnc_k22 : callable Tryd.prog 22 = true := by kernel_rfl
theorem RpcEnc_k16 : callable Tryd.prog 16 = true := by kernel_rfl
theorem RpcEnc_q23 : litQ Tryd.prog 23 = some (5, 1, 1, (.int .u8 0)) := by kernel_rfl
theorem own_range {w : World} {base e s g n c : Nat} {xs : List Value} (h : w.ownsRow base e s (.slice (some ⟨g, 0, none⟩) n c) n xs) : w.rangeAt g 0 xs := fun i u hu => by
  have := h.cells (g := g) rfl i u hu
  rw [Addr.add_lit] at this
  exact this
theorem own_src {w : World} {base e s n c : Nat} {A : Option Addr} {xs : List Value} (h : w.ownsRow base e s (.slice A n c) n xs) (hn : 0 < n) : ∃ b o, A = some ⟨b, o, none⟩ ∧ w.rangeAt b o xs := by
  obtain ⟨g, rfl⟩ := own_some h hn
  exact ⟨g, 0, rfl, own_range h⟩
theorem runs_mem : ∀ {es : List Ent} {p q : Int}, runs es p q = true → ∀ e ∈ es, (0 ≤ e.i ∧ e.i ≤ 1099511627776) ∧ (0 ≤ e.t ∧ e.t ≤ 1099511627775) ∧ e.d.size ≤ 4096
  | x :: r, p, q, h, e, he => by
    simp only [runs, entOk, Bool.and_eq_true, decide_eq_true_eq] at h
    rcases List.mem_cons.1 he with rfl | he
    · have h1 := inb_true h.1.1.1.2
      have h2 := inb_true h.1.1.2
      have h3 := h.1.2
      exact ⟨by omega, by omega, h3⟩
    · exact runs_mem h.2 e he
theorem okR_ents {k f t tm ix lt cm rd : Int} {ok : Bool} {es : List Ent} {a : Int} {d : ByteArray} {dn : Bool} (h : OkR k f t tm ix lt cm rd ok es a d dn) : es.length ≤ 16 ∧ (∀ e ∈ es, (0 ≤ e.i ∧ e.i ≤ 1099511627776) ∧ (0 ≤ e.t ∧ e.t ≤ 1099511627775) ∧ e.d.size ≤ 4096) ∧ d.size ≤ 1024 := by
  obtain ⟨h1, h2, h3, h4⟩ := h
  unfold NumR at h1
  by_cases hk : k = 3
  · obtain ⟨h5, h6⟩ := h3 hk
    refine ⟨h5, runs_mem h6, ?_⟩
    unfold ExR at h2
    rw [if_neg (by omega), if_neg (by omega), if_pos hk] at h2
    omega
  · have h0 : es.length = 0 ∧ d.size ≤ 1024 := by
      unfold ExR at h2
      by_cases k1 : k = 1
      · rw [if_pos k1] at h2; omega
      by_cases k2 : k = 2
      · rw [if_neg k1, if_pos k2] at h2; omega
      by_cases k4 : k = 4
      · rw [if_neg k1, if_neg k2, if_neg hk, if_pos k4] at h2; omega
      by_cases k5 : k = 5
      · rw [if_neg k1, if_neg k2, if_neg hk, if_neg k4, if_pos k5] at h2
        have := h4 k5
        omega
      rw [if_neg k1, if_neg k2, if_neg hk, if_neg k4, if_neg k5, if_pos (by omega)] at h2
      omega
    have he : es = [] := List.eq_nil_of_length_eq_zero h0.1
    subst he
    exact ⟨by simp, fun e he => by simp at he, h0.2⟩
def tsE (es : List Ent) : List ByteArray := es.flatMap fun e => [strOf (nums e.i.toNat), strOf (nums e.t.toNat), e.d]
theorem tsE_len (es : List Ent) : (tsE es).length = 3 * es.length := by
  induction es with
  | nil => rfl
  | cons e r ih =>
    show ([_, _, _] ++ tsE r).length = _
    rw [List.length_append, ih]
    simp only [List.length_cons, List.length_nil]
    omega
theorem tsE_take {es : List Ent} {j : Nat} (h : j < es.length) : tsE (es.take (j + 1)) = tsE (es.take j) ++ [strOf (nums es[j].i.toNat), strOf (nums es[j].t.toNat), es[j].d] := by
  unfold tsE
  rw [List.take_succ_eq_append_getElem h, List.flatMap_append]
  simp
theorem tsE_step {X : List ByteArray} {es : List Ent} {j : Nat} (h : j < es.length) : (X ++ tsE (es.take (j + 1))).map Value.string = (X ++ tsE (es.take j)).map Value.string ++ [Value.string (strOf (nums es[j].i.toNat)), Value.string (strOf (nums es[j].t.toNat))] ++ [Value.string es[j].d] := by
  rw [tsE_take h]
  simp
def hdR (k f t tm ix lt cm rd : Int) (ok : Bool) (a : Int) (dn : Bool) : List Int := [k, f, t, tm, ix, lt, cm, rd, a, (ok.toNat : Nat), (dn.toNat : Nat)]
def tsR (k f t tm ix lt cm rd : Int) (ok : Bool) (es : List Ent) (a : Int) (d : ByteArray) (dn : Bool) : List ByteArray := numsS (hdR k f t tm ix lt cm rd ok a dn) ++ [d] ++ tsE es
def encR (ts : List ByteArray) : List Nat := putB ts ++ ck (putB ts)
theorem put_n (A : Option Addr) (c n N : Nat) (ts : List ByteArray) (w : World) (hn : n = ts.length) (hN : (putB ts).length = N) (hr : RowC w (.slice A n c) (ts.map .string)) (hs : ∀ s ∈ ts, s.size ≤ 140737488351232) (hfit : N ≤ 1048576) : Rt Tryd.prog 22 [.slice A n c] w fun v w' => ∃ A c, v = .tuple #[.slice A N c, .int .i64 0] ∧ w'.ownsRow w.heap.size 5 1 (.slice A N c) N (bytesV (putB ts)) ∧ From w w' := by
  subst hN
  exact put_w A c n ts w hn hr hs hfit
theorem encS_mem : ∀ {ts : List ByteArray} {s : ByteArray}, s ∈ ts → s.size ≤ (encL ts).length
  | x :: r, s, h => by
    rw [encL, List.length_append, encS_length]
    rcases List.mem_cons.1 h with rfl | h
    · omega
    · have := encS_mem h; omega
theorem putB_mem {ts : List ByteArray} {s : ByteArray} (h : s ∈ ts) : s.size ≤ (putB ts).length := by
  rw [putB, List.length_append]
  have := encS_mem h
  omega
theorem encL_byte : ∀ {ts : List ByteArray}, (∀ s ∈ ts, s.size ≤ 9223372036854775807) → ∀ b ∈ encL ts, b < 256
  | [], _, b, h => by simp [encL] at h
  | x :: r, hs, b, h => by
    rw [encL, encS] at h
    rcases List.mem_append.1 h with h | h
    · rcases List.mem_append.1 h with h | h
      · exact nums_byte9 (hs x (.head _)) b h
      · exact strB_lt x b h
    · exact encL_byte (fun s h => hs s (.tail _ h)) b h
theorem putB_byte {ts : List ByteArray} (hl : ts.length ≤ 9223372036854775807) (hs : ∀ s ∈ ts, s.size ≤ 9223372036854775807) : ∀ b ∈ putB ts, b < 256 := by
  intro b hb
  rw [putB] at hb
  rcases List.mem_append.1 hb with h | h
  · exact nums_byte9 hl b h
  · exact encL_byte hs b h
theorem putB_ok {ts : List ByteArray} {N : Nat} (hN : (putB ts).length = N) (hfit : N ≤ 1048576) : (∀ s ∈ ts, s.size ≤ 140737488351232) ∧ ∀ b ∈ putB ts, b < 256 := by
  have h1 : ∀ s ∈ ts, s.size ≤ 1048576 := fun s hs => by have := putB_mem hs; omega
  have h2 : ts.length ≤ 1048576 := by
    have := encL_count ts
    rw [putB, List.length_append] at hN
    omega
  exact ⟨fun s hs => by have := h1 s hs; omega, putB_byte (by omega) fun s hs => by have := h1 s hs; omega⟩
theorem check_ok (k f t tm ix lt cm rd : Int) (ok : Bool) (E : Option Addr) (n c : Nat) (a : Int) (d : ByteArray) (dn : Bool) (w : World) (es : List Ent) (hn : n = es.length) (he : Ents w (.slice E n c) es) (hl : es.length ≤ 400000000000) (ho : OkR k f t tm ix lt cm rd ok es a d dn) :
    Rt Tryd.prog 13 [.agg #[.int .i64 k, .int .i64 f, .int .i64 t, .int .i64 tm, .int .i64 ix, .int .i64 lt, .int .i64 cm, .int .i64 rd, .bool ok, .slice E n c, .int .i64 a, .string d, .bool dn]] w fun v w' => v = .int .i64 0 ∧ From w w' :=
  (check_r k f t tm ix lt cm rd ok E n c a d dn w es hn he hl).mono fun v w' h => ⟨by rw [h.1, if_pos ho], h.2⟩
theorem ent_at {w : World} {A : Option Addr} {n c : Nat} {es : List Ent} (h : Ents w (.slice A n c) es) (hn : 0 < es.length) : ∃ b o, A = some ⟨b, o, none⟩ ∧ ∀ i (hi : i < es.length), w.rangeAt b (o + i * 3) [.int .i64 es[i].i, .int .i64 es[i].t, .string es[i].d] := by
  obtain ⟨A', c', hv, _, _, _, hp⟩ := h
  simp only [Value.slice.injEq] at hv
  obtain ⟨rfl, _, _⟩ := hv
  obtain ⟨b, o, hA, _, hc⟩ := hp hn
  exact ⟨b, o, hA, fun i hi => range3 (hc i hi).1 (hc i hi).2.1 (hc i hi).2.2⟩
theorem len3 (x y z : ByteArray) : ([x, y, z].map Value.string).length = 3 := rfl
theorem ro_lits {P : Program} {ρ : Operand → Value} {w : World} {t : TypeId} {e by_ m : Nat} {z : Value} (xs : List Operand) (vs : List Value) (hq : litQ P t = some (e, 1, by_, z)) (hm : xs.length = m) (hsmall : Nat.ble m 16777216 = true) (hpos : Nat.beq m 0 = false) (hx : xs.map ρ = vs) (hv : ∀ v ∈ vs, v.cells = #[v]) :
    RO P ρ (.buildSlice t m (litParts 0 xs).toArray) w (.slice (some ⟨w.heap.size, 0, none⟩) m m) (w.alloc (.cells vs.toArray e)) := by
  have hlen : vs.length = m := by rw [← hx, List.length_map, hm]
  obtain ⟨R, hR, hs, hc⟩ := fill_parts vs 0 ((Array.range (m * 1)).map (z.cells[· % z.cells.size]!)) hv (by simp; omega)
  have hRe : R = vs.toArray := by
    apply Array.ext_getElem?
    intro j
    rw [hc]
    by_cases hj : j < m
    · rw [if_pos ⟨by omega, by omega⟩, Nat.sub_zero, List.getElem?_toArray]
    · rw [if_neg (by omega), Array.getElem?_eq_none (by rw [Array.size_map, Array.size_range]; omega), Array.getElem?_eq_none (by rw [List.size_toArray]; omega)]
  subst hRe
  refine ro_lit hq (by rw [Nat.mul_one]; exact hsmall) (by rw [Nat.mul_one]; exact hpos) ?_
  rw [litParts_map, hx]
  exact hR
set_option maxRecDepth 100000 in
set_option maxHeartbeats 2000000 in
theorem encode_ok (k f t tm ix lt cm rd : Int) (ok : Bool) (E : Option Addr) (n c : Nat) (a : Int) (d : ByteArray) (dn : Bool) (w : World) (es : List Ent) (hn : n = es.length) (he : Ents w (.slice E n c) es) (ho : OkR k f t tm ix lt cm rd ok es a d dn) (N : Nat) (hN : (putB (tsR k f t tm ix lt cm rd ok es a d dn)).length = N) (hfit : N ≤ 1048576) (hT : Table w) :
    Rt Tryd.prog 10 [.agg #[.int .i64 k, .int .i64 f, .int .i64 t, .int .i64 tm, .int .i64 ix, .int .i64 lt, .int .i64 cm, .int .i64 rd, .bool ok, .slice E n c, .int .i64 a, .string d, .bool dn]] w (fun v w' => (∃ A' c', v = .tuple #[.slice A' (N + 4) c', .int .i64 0] ∧ w'.ownsRow w.heap.size 5 1 (.slice A' (N + 4) c') (N + 4) (bytesV (encR (tsR k f t tm ix lt cm rd ok es a d dn)))) ∧ From w w') := by
  obtain ⟨hes16, hesb, hd9⟩ := okR_ents ho
  obtain ⟨hs9, hb9⟩ := putB_ok hN hfit
  have hnum := ho.1
  unfold NumR at hnum
  have hx0 : ∀ x ∈ hdR k f t tm ix lt cm rd ok a dn, 0 ≤ x ∧ x ≤ 9223372036854775807 := by
    intro x hx
    unfold hdR at hx
    simp only [List.mem_cons, List.not_mem_nil, or_false] at hx
    have h1 : ok.toNat ≤ 1 := by cases ok <;> decide
    have h2 : dn.toNat ≤ 1 := by cases dn <;> decide
    omega
  refine enter (n := 74) Tryd.func10 rfl rfl rfl ?_
  refine cd_seq ?_
  refine cd_region ?_
  refine st_box (v := .agg _) rfl ?_
  intro b1 w1 E1 hb1 hk1
  refine st_val (ro_assign (v := .slice _ _ _) rfl) ?_
  refine st_val (ro_assign (v := .int _ _) rfl) ?_
  refine st_nil ?_
  refine nx_then ?_
  refine cd_seq ?_
  refine cd_seq ?_
  refine cd_region ?_
  refine st_val (ro_loadA (cs := [_, _, _, _, _, _, _, _, _, _, _, _, _]) RpcEnc_g27 RpcEnc_z27 rfl (by exact (hk1.from_ From.rfl_).whole)) ?_
  refine st_call RpcEnc_k13 (check_ok k f t tm ix lt cm rd ok E n c a d dn _ es hn (he.from_ (From.rfl_.next E1)) (by omega) ho) ?_
  rintro v10 w2 ⟨rfl, E10⟩
  have hg1 : w.heap.size ≤ b1 := by rw [hb1]; exact Nat.le_refl _
  replace hk1 := hk1.from_ E10
  refine st_val (ro_neq rfl rfl) ?_
  refine st_nil ?_
  refine nx_then ?_
  refine cd_cond rfl (fun Q3 => ?_) (fun Q3 => ?_)
  · (try first | replace Q3 := bn_t Q3 | replace Q3 := bn_f Q3)
    (try first | replace Q3 := bx_t Q3 | replace Q3 := bx_f Q3 | replace Q3 := be_t Q3 | replace Q3 := be_f Q3 | replace Q3 := of_decide_eq_true Q3 | replace Q3 := of_decide_eq_false Q3)
    first
     | (exfalso; first | omega | contradiction | (cases Q3; done))
     | skip
       refine cd_seq ?_
       refine cd_region ?_
       refine st_val (ro_assign (v := .slice _ _ _) rfl) ?_
       refine st_val (ro_assign (v := .int _ _) rfl) ?_
       refine st_nil ?_
       refine nx_then ?_
       refine cd_ret ?_
       refine rt_then ?_
       refine res2 (v := .slice _ _ _) (v' := .int _ _) rfl rfl rfl ?_
       exact ⟨⟨A73, c73, rfl, by unfold encR bytesV; rw [List.map_append]; exact ho73⟩, ((From.rfl_.next E1).next E10)⟩
  · (try first | replace Q3 := bn_t Q3 | replace Q3 := bn_f Q3)
    (try first | replace Q3 := bx_t Q3 | replace Q3 := bx_f Q3 | replace Q3 := be_t Q3 | replace Q3 := be_f Q3 | replace Q3 := of_decide_eq_true Q3 | replace Q3 := of_decide_eq_false Q3)
    first
     | (exfalso; first | omega | contradiction | (cases Q3; done))
     | skip
       refine cd_skip ?_
       refine nx_then ?_
       refine cd_seq ?_
       apply cd_invP [(0, 12, fun _ v _ => v = _), (1, 13, fun _ v _ => v = _), (2, 14, fun _ v _ => v = _), (3, 15, fun _ v _ => v = _), (4, 16, fun _ v _ => v = _), (5, 17, fun _ v _ => v = _), (6, 18, fun _ v _ => v = _), (7, 19, fun _ v _ => v = _), (8, 20, fun _ v _ => v = _), (9, 21, fun _ v _ => v = _), (10, 22, fun _ v _ => v = _), (11, 23, fun _ v _ => v = _), (12, 24, fun _ v _ => v = _), (13, 25, fun _ v _ => v = _), (14, 26, fun _ v _ => v = _), (15, 27, fun _ v _ => v = _), (16, 28, fun _ v _ => v = _), (17, 29, fun _ v _ => v = _), (18, 30, fun _ v _ => v = _), (19, 31, fun _ v _ => v = _), (20, 32, fun _ v _ => v = _), (21, 33, fun _ v _ => v = _), (22, 34, fun _ v _ => v = _), (23, 35, fun _ v _ => v = _), (24, 36, fun S v w' => ∃ g, v = .slice (some ⟨g, 0, none⟩) 11 11 ∧ Blk w' g 3 ((hdR k f t tm ix lt cm rd ok a dn).map iV).toArray), (25, 37, fun S v w' => ∃ A' c', v = .slice A' 11 c' ∧ w'.ownsRow w.heap.size 9 1 (.slice A' 11 c') 11 ((numsS (hdR k f t tm ix lt cm rd ok a dn)).map .string)), (26, 4, fun S v w' => ∃ A' c', v = .slice A' 11 c' ∧ w'.ownsRow w.heap.size 9 1 (.slice A' 11 c') 11 ((numsS (hdR k f t tm ix lt cm rd ok a dn)).map .string))] [] (fun S w' => From w w' ∧ Blk w' b1 27 #[.int .i64 k, .int .i64 f, .int .i64 t, .int .i64 tm, .int .i64 ix, .int .i64 lt, .int .i64 cm, .int .i64 rd, .bool ok, .slice E n c, .int .i64 a, .string d, .bool dn]) (by kernel_rfl) (by kernel_rfl) rfl rfl ⟨fun _ _ _ _ _ _ _ h => h, fun _ _ _ _ _ _ _ h => h, fun _ _ _ _ _ _ _ h => h, fun _ _ _ _ _ _ _ h => h, fun _ _ _ _ _ _ _ h => h, fun _ _ _ _ _ _ _ h => h, fun _ _ _ _ _ _ _ h => h, fun _ _ _ _ _ _ _ h => h, fun _ _ _ _ _ _ _ h => h, fun _ _ _ _ _ _ _ h => h, fun _ _ _ _ _ _ _ h => h, fun _ _ _ _ _ _ _ h => h, fun _ _ _ _ _ _ _ h => h, fun _ _ _ _ _ _ _ h => h, fun _ _ _ _ _ _ _ h => h, fun _ _ _ _ _ _ _ h => h, fun _ _ _ _ _ _ _ h => h, fun _ _ _ _ _ _ _ h => h, fun _ _ _ _ _ _ _ h => h, fun _ _ _ _ _ _ _ h => h, fun _ _ _ _ _ _ _ h => h, fun _ _ _ _ _ _ _ h => h, fun _ _ _ _ _ _ _ h => h, fun _ _ _ _ _ _ _ h => h, fun S i v w1 w2 hq hF ⟨g, h1, h2⟩ => ⟨g, h1, h2.from_ hF⟩, fun S i v w1 w2 hq hF ⟨A', c', h1, h2⟩ => ⟨A', c', h1, h2.kept_from hF⟩, fun S i v w1 w2 hq hF ⟨A', c', h1, h2⟩ => ⟨A', c', h1, h2.kept_from hF⟩, trivial⟩ (fun S i w1 w2 hq hF h => ⟨h.1.next hF, h.2.from_ hF⟩) (⟨(((From.rfl_.next E1).next E10)).d1, hk1.from_ From.rfl_.d1⟩)
       case hstep =>
        refine ⟨?_, ?_⟩
        · rintro S L' w4 hU hmo hme hI hM hC hS ⟨-⟩
          have hM' := hM
          obtain ⟨hB4, hk1⟩ := hM'
          have e1 := hI.1 1 (outP rfl)
          exact stepQ_ro [(1, _)] hU hmo hme hI hM (.head _) rfl rfl (by kernel_rfl) ⟨e1, trivial⟩ (ro_fieldAddr RpcEnc_f27_0 rfl) From.rfl_ rfl
        refine ⟨?_, ?_⟩
        · rintro S L' w5 hU hmo hme hI hM hC hS ⟨d0, -⟩
          have hM' := hM
          obtain ⟨hB5, hk1⟩ := hM'
          obtain ⟨v5_12, e12, h12⟩ := hI.get (i := 0) (.head _) d0
          obtain rfl := h12
          exact stepQ_ro [(12, _)] hU hmo hme hI hM (.tail _ (.head _)) rfl rfl (by kernel_rfl) ⟨e12, trivial⟩ (ro_load RpcEnc_g3 rfl (by exact hk1.rd 0 rfl)) From.rfl_ rfl
        refine ⟨?_, ?_⟩
        · rintro S L' w6 hU hmo hme hI hM hC hS ⟨-⟩
          have hM' := hM
          obtain ⟨hB6, hk1⟩ := hM'
          have e1 := hI.1 1 (outP rfl)
          exact stepQ_ro [(1, _)] hU hmo hme hI hM (.tail _ (.tail _ (.head _))) rfl rfl (by kernel_rfl) ⟨e1, trivial⟩ (ro_fieldAddr RpcEnc_f27_1 rfl) From.rfl_ rfl
        refine ⟨?_, ?_⟩
        · rintro S L' w7 hU hmo hme hI hM hC hS ⟨d2, -⟩
          have hM' := hM
          obtain ⟨hB7, hk1⟩ := hM'
          obtain ⟨v7_14, e14, h14⟩ := hI.get (i := 2) (.tail _ (.tail _ (.head _))) d2
          obtain rfl := h14
          exact stepQ_ro [(14, _)] hU hmo hme hI hM (.tail _ (.tail _ (.tail _ (.head _)))) rfl rfl (by kernel_rfl) ⟨e14, trivial⟩ (ro_load RpcEnc_g3 rfl (by exact hk1.rd 1 rfl)) From.rfl_ rfl
        refine ⟨?_, ?_⟩
        · rintro S L' w8 hU hmo hme hI hM hC hS ⟨-⟩
          have hM' := hM
          obtain ⟨hB8, hk1⟩ := hM'
          have e1 := hI.1 1 (outP rfl)
          exact stepQ_ro [(1, _)] hU hmo hme hI hM (.tail _ (.tail _ (.tail _ (.tail _ (.head _))))) rfl rfl (by kernel_rfl) ⟨e1, trivial⟩ (ro_fieldAddr RpcEnc_f27_2 rfl) From.rfl_ rfl
        refine ⟨?_, ?_⟩
        · rintro S L' w9 hU hmo hme hI hM hC hS ⟨d4, -⟩
          have hM' := hM
          obtain ⟨hB9, hk1⟩ := hM'
          obtain ⟨v9_16, e16, h16⟩ := hI.get (i := 4) (.tail _ (.tail _ (.tail _ (.tail _ (.head _))))) d4
          obtain rfl := h16
          exact stepQ_ro [(16, _)] hU hmo hme hI hM (.tail _ (.tail _ (.tail _ (.tail _ (.tail _ (.head _)))))) rfl rfl (by kernel_rfl) ⟨e16, trivial⟩ (ro_load RpcEnc_g3 rfl (by exact hk1.rd 2 rfl)) From.rfl_ rfl
        refine ⟨?_, ?_⟩
        · rintro S L' w10 hU hmo hme hI hM hC hS ⟨-⟩
          have hM' := hM
          obtain ⟨hB10, hk1⟩ := hM'
          have e1 := hI.1 1 (outP rfl)
          exact stepQ_ro [(1, _)] hU hmo hme hI hM (.tail _ (.tail _ (.tail _ (.tail _ (.tail _ (.tail _ (.head _))))))) rfl rfl (by kernel_rfl) ⟨e1, trivial⟩ (ro_fieldAddr RpcEnc_f27_3 rfl) From.rfl_ rfl
        refine ⟨?_, ?_⟩
        · rintro S L' w11 hU hmo hme hI hM hC hS ⟨d6, -⟩
          have hM' := hM
          obtain ⟨hB11, hk1⟩ := hM'
          obtain ⟨v11_18, e18, h18⟩ := hI.get (i := 6) (.tail _ (.tail _ (.tail _ (.tail _ (.tail _ (.tail _ (.head _))))))) d6
          obtain rfl := h18
          exact stepQ_ro [(18, _)] hU hmo hme hI hM (.tail _ (.tail _ (.tail _ (.tail _ (.tail _ (.tail _ (.tail _ (.head _)))))))) rfl rfl (by kernel_rfl) ⟨e18, trivial⟩ (ro_load RpcEnc_g3 rfl (by exact hk1.rd 3 rfl)) From.rfl_ rfl
        refine ⟨?_, ?_⟩
        · rintro S L' w12 hU hmo hme hI hM hC hS ⟨-⟩
          have hM' := hM
          obtain ⟨hB12, hk1⟩ := hM'
          have e1 := hI.1 1 (outP rfl)
          exact stepQ_ro [(1, _)] hU hmo hme hI hM (.tail _ (.tail _ (.tail _ (.tail _ (.tail _ (.tail _ (.tail _ (.tail _ (.head _))))))))) rfl rfl (by kernel_rfl) ⟨e1, trivial⟩ (ro_fieldAddr RpcEnc_f27_4 rfl) From.rfl_ rfl
        refine ⟨?_, ?_⟩
        · rintro S L' w13 hU hmo hme hI hM hC hS ⟨d8, -⟩
          have hM' := hM
          obtain ⟨hB13, hk1⟩ := hM'
          obtain ⟨v13_20, e20, h20⟩ := hI.get (i := 8) (.tail _ (.tail _ (.tail _ (.tail _ (.tail _ (.tail _ (.tail _ (.tail _ (.head _))))))))) d8
          obtain rfl := h20
          exact stepQ_ro [(20, _)] hU hmo hme hI hM (.tail _ (.tail _ (.tail _ (.tail _ (.tail _ (.tail _ (.tail _ (.tail _ (.tail _ (.head _)))))))))) rfl rfl (by kernel_rfl) ⟨e20, trivial⟩ (ro_load RpcEnc_g3 rfl (by exact hk1.rd 4 rfl)) From.rfl_ rfl
        refine ⟨?_, ?_⟩
        · rintro S L' w14 hU hmo hme hI hM hC hS ⟨-⟩
          have hM' := hM
          obtain ⟨hB14, hk1⟩ := hM'
          have e1 := hI.1 1 (outP rfl)
          exact stepQ_ro [(1, _)] hU hmo hme hI hM (.tail _ (.tail _ (.tail _ (.tail _ (.tail _ (.tail _ (.tail _ (.tail _ (.tail _ (.tail _ (.head _))))))))))) rfl rfl (by kernel_rfl) ⟨e1, trivial⟩ (ro_fieldAddr RpcEnc_f27_5 rfl) From.rfl_ rfl
        refine ⟨?_, ?_⟩
        · rintro S L' w15 hU hmo hme hI hM hC hS ⟨d10, -⟩
          have hM' := hM
          obtain ⟨hB15, hk1⟩ := hM'
          obtain ⟨v15_22, e22, h22⟩ := hI.get (i := 10) (.tail _ (.tail _ (.tail _ (.tail _ (.tail _ (.tail _ (.tail _ (.tail _ (.tail _ (.tail _ (.head _))))))))))) d10
          obtain rfl := h22
          exact stepQ_ro [(22, _)] hU hmo hme hI hM (.tail _ (.tail _ (.tail _ (.tail _ (.tail _ (.tail _ (.tail _ (.tail _ (.tail _ (.tail _ (.tail _ (.head _)))))))))))) rfl rfl (by kernel_rfl) ⟨e22, trivial⟩ (ro_load RpcEnc_g3 rfl (by exact hk1.rd 5 rfl)) From.rfl_ rfl
        refine ⟨?_, ?_⟩
        · rintro S L' w16 hU hmo hme hI hM hC hS ⟨-⟩
          have hM' := hM
          obtain ⟨hB16, hk1⟩ := hM'
          have e1 := hI.1 1 (outP rfl)
          exact stepQ_ro [(1, _)] hU hmo hme hI hM (.tail _ (.tail _ (.tail _ (.tail _ (.tail _ (.tail _ (.tail _ (.tail _ (.tail _ (.tail _ (.tail _ (.tail _ (.head _))))))))))))) rfl rfl (by kernel_rfl) ⟨e1, trivial⟩ (ro_fieldAddr RpcEnc_f27_6 rfl) From.rfl_ rfl
        refine ⟨?_, ?_⟩
        · rintro S L' w17 hU hmo hme hI hM hC hS ⟨d12, -⟩
          have hM' := hM
          obtain ⟨hB17, hk1⟩ := hM'
          obtain ⟨v17_24, e24, h24⟩ := hI.get (i := 12) (.tail _ (.tail _ (.tail _ (.tail _ (.tail _ (.tail _ (.tail _ (.tail _ (.tail _ (.tail _ (.tail _ (.tail _ (.head _))))))))))))) d12
          obtain rfl := h24
          exact stepQ_ro [(24, _)] hU hmo hme hI hM (.tail _ (.tail _ (.tail _ (.tail _ (.tail _ (.tail _ (.tail _ (.tail _ (.tail _ (.tail _ (.tail _ (.tail _ (.tail _ (.head _)))))))))))))) rfl rfl (by kernel_rfl) ⟨e24, trivial⟩ (ro_load RpcEnc_g3 rfl (by exact hk1.rd 6 rfl)) From.rfl_ rfl
        refine ⟨?_, ?_⟩
        · rintro S L' w18 hU hmo hme hI hM hC hS ⟨-⟩
          have hM' := hM
          obtain ⟨hB18, hk1⟩ := hM'
          have e1 := hI.1 1 (outP rfl)
          exact stepQ_ro [(1, _)] hU hmo hme hI hM (.tail _ (.tail _ (.tail _ (.tail _ (.tail _ (.tail _ (.tail _ (.tail _ (.tail _ (.tail _ (.tail _ (.tail _ (.tail _ (.tail _ (.head _))))))))))))))) rfl rfl (by kernel_rfl) ⟨e1, trivial⟩ (ro_fieldAddr RpcEnc_f27_7 rfl) From.rfl_ rfl
        refine ⟨?_, ?_⟩
        · rintro S L' w19 hU hmo hme hI hM hC hS ⟨d14, -⟩
          have hM' := hM
          obtain ⟨hB19, hk1⟩ := hM'
          obtain ⟨v19_26, e26, h26⟩ := hI.get (i := 14) (.tail _ (.tail _ (.tail _ (.tail _ (.tail _ (.tail _ (.tail _ (.tail _ (.tail _ (.tail _ (.tail _ (.tail _ (.tail _ (.tail _ (.head _))))))))))))))) d14
          obtain rfl := h26
          exact stepQ_ro [(26, _)] hU hmo hme hI hM (.tail _ (.tail _ (.tail _ (.tail _ (.tail _ (.tail _ (.tail _ (.tail _ (.tail _ (.tail _ (.tail _ (.tail _ (.tail _ (.tail _ (.tail _ (.head _)))))))))))))))) rfl rfl (by kernel_rfl) ⟨e26, trivial⟩ (ro_load RpcEnc_g3 rfl (by exact hk1.rd 7 rfl)) From.rfl_ rfl
        refine ⟨?_, ?_⟩
        · rintro S L' w20 hU hmo hme hI hM hC hS ⟨-⟩
          have hM' := hM
          obtain ⟨hB20, hk1⟩ := hM'
          have e1 := hI.1 1 (outP rfl)
          exact stepQ_ro [(1, _)] hU hmo hme hI hM (.tail _ (.tail _ (.tail _ (.tail _ (.tail _ (.tail _ (.tail _ (.tail _ (.tail _ (.tail _ (.tail _ (.tail _ (.tail _ (.tail _ (.tail _ (.tail _ (.head _))))))))))))))))) rfl rfl (by kernel_rfl) ⟨e1, trivial⟩ (ro_fieldAddr RpcEnc_f27_10 rfl) From.rfl_ rfl
        refine ⟨?_, ?_⟩
        · rintro S L' w21 hU hmo hme hI hM hC hS ⟨d16, -⟩
          have hM' := hM
          obtain ⟨hB21, hk1⟩ := hM'
          obtain ⟨v21_28, e28, h28⟩ := hI.get (i := 16) (.tail _ (.tail _ (.tail _ (.tail _ (.tail _ (.tail _ (.tail _ (.tail _ (.tail _ (.tail _ (.tail _ (.tail _ (.tail _ (.tail _ (.tail _ (.tail _ (.head _))))))))))))))))) d16
          obtain rfl := h28
          exact stepQ_ro [(28, _)] hU hmo hme hI hM (.tail _ (.tail _ (.tail _ (.tail _ (.tail _ (.tail _ (.tail _ (.tail _ (.tail _ (.tail _ (.tail _ (.tail _ (.tail _ (.tail _ (.tail _ (.tail _ (.tail _ (.head _)))))))))))))))))) rfl rfl (by kernel_rfl) ⟨e28, trivial⟩ (ro_load RpcEnc_g3 rfl (by exact hk1.rd 10 rfl)) From.rfl_ rfl
        refine ⟨?_, ?_⟩
        · rintro S L' w22 hU hmo hme hI hM hC hS ⟨-⟩
          have hM' := hM
          obtain ⟨hB22, hk1⟩ := hM'
          have e1 := hI.1 1 (outP rfl)
          exact stepQ_ro [(1, _)] hU hmo hme hI hM (.tail _ (.tail _ (.tail _ (.tail _ (.tail _ (.tail _ (.tail _ (.tail _ (.tail _ (.tail _ (.tail _ (.tail _ (.tail _ (.tail _ (.tail _ (.tail _ (.tail _ (.tail _ (.head _))))))))))))))))))) rfl rfl (by kernel_rfl) ⟨e1, trivial⟩ (ro_fieldAddr RpcEnc_f27_8 rfl) From.rfl_ rfl
        refine ⟨?_, ?_⟩
        · rintro S L' w23 hU hmo hme hI hM hC hS ⟨d18, -⟩
          have hM' := hM
          obtain ⟨hB23, hk1⟩ := hM'
          obtain ⟨v23_30, e30, h30⟩ := hI.get (i := 18) (.tail _ (.tail _ (.tail _ (.tail _ (.tail _ (.tail _ (.tail _ (.tail _ (.tail _ (.tail _ (.tail _ (.tail _ (.tail _ (.tail _ (.tail _ (.tail _ (.tail _ (.tail _ (.head _))))))))))))))))))) d18
          obtain rfl := h30
          exact stepQ_ro [(30, _)] hU hmo hme hI hM (.tail _ (.tail _ (.tail _ (.tail _ (.tail _ (.tail _ (.tail _ (.tail _ (.tail _ (.tail _ (.tail _ (.tail _ (.tail _ (.tail _ (.tail _ (.tail _ (.tail _ (.tail _ (.tail _ (.head _)))))))))))))))))))) rfl rfl (by kernel_rfl) ⟨e30, trivial⟩ (ro_load RpcEnc_g4 rfl (by exact hk1.rd 8 rfl)) From.rfl_ rfl
        refine ⟨?_, ?_⟩
        · rintro S L' w24 hU hmo hme hI hM hC hS ⟨d19, -⟩
          have hM' := hM
          obtain ⟨hB24, hk1⟩ := hM'
          obtain ⟨v24_31, e31, h31⟩ := hI.get (i := 19) (.tail _ (.tail _ (.tail _ (.tail _ (.tail _ (.tail _ (.tail _ (.tail _ (.tail _ (.tail _ (.tail _ (.tail _ (.tail _ (.tail _ (.tail _ (.tail _ (.tail _ (.tail _ (.tail _ (.head _)))))))))))))))))))) d19
          obtain rfl := h31
          refine stepQ_call (al := [.tmp 31]) [(31, _)] hU hmo hme hI hM (.tail _ (.tail _ (.tail _ (.tail _ (.tail _ (.tail _ (.tail _ (.tail _ (.tail _ (.tail _ (.tail _ (.tail _ (.tail _ (.tail _ (.tail _ (.tail _ (.tail _ (.tail _ (.tail _ (.tail _ (.head _))))))))))))))))))))) rfl (by kernel_rfl) ⟨e31, trivial⟩ RpcEnc_k21 ((flag_r ok _).mono ?_)
          rintro v w2 ⟨rfl, rfl⟩; exact ⟨From.rfl_, rfl⟩
        refine ⟨?_, ?_⟩
        · rintro S L' w25 hU hmo hme hI hM hC hS ⟨-⟩
          have hM' := hM
          obtain ⟨hB25, hk1⟩ := hM'
          have e1 := hI.1 1 (outP rfl)
          exact stepQ_ro [(1, _)] hU hmo hme hI hM (.tail _ (.tail _ (.tail _ (.tail _ (.tail _ (.tail _ (.tail _ (.tail _ (.tail _ (.tail _ (.tail _ (.tail _ (.tail _ (.tail _ (.tail _ (.tail _ (.tail _ (.tail _ (.tail _ (.tail _ (.tail _ (.head _)))))))))))))))))))))) rfl rfl (by kernel_rfl) ⟨e1, trivial⟩ (ro_fieldAddr RpcEnc_f27_12 rfl) From.rfl_ rfl
        refine ⟨?_, ?_⟩
        · rintro S L' w26 hU hmo hme hI hM hC hS ⟨d21, -⟩
          have hM' := hM
          obtain ⟨hB26, hk1⟩ := hM'
          obtain ⟨v26_33, e33, h33⟩ := hI.get (i := 21) (.tail _ (.tail _ (.tail _ (.tail _ (.tail _ (.tail _ (.tail _ (.tail _ (.tail _ (.tail _ (.tail _ (.tail _ (.tail _ (.tail _ (.tail _ (.tail _ (.tail _ (.tail _ (.tail _ (.tail _ (.tail _ (.head _)))))))))))))))))))))) d21
          obtain rfl := h33
          exact stepQ_ro [(33, _)] hU hmo hme hI hM (.tail _ (.tail _ (.tail _ (.tail _ (.tail _ (.tail _ (.tail _ (.tail _ (.tail _ (.tail _ (.tail _ (.tail _ (.tail _ (.tail _ (.tail _ (.tail _ (.tail _ (.tail _ (.tail _ (.tail _ (.tail _ (.tail _ (.head _))))))))))))))))))))))) rfl rfl (by kernel_rfl) ⟨e33, trivial⟩ (ro_load RpcEnc_g4 rfl (by exact hk1.rd 12 rfl)) From.rfl_ rfl
        refine ⟨?_, ?_⟩
        · rintro S L' w27 hU hmo hme hI hM hC hS ⟨d22, d20, -⟩
          have hM' := hM
          obtain ⟨hB27, hk1⟩ := hM'
          obtain ⟨v27_34, e34, h34⟩ := hI.get (i := 22) (.tail _ (.tail _ (.tail _ (.tail _ (.tail _ (.tail _ (.tail _ (.tail _ (.tail _ (.tail _ (.tail _ (.tail _ (.tail _ (.tail _ (.tail _ (.tail _ (.tail _ (.tail _ (.tail _ (.tail _ (.tail _ (.tail _ (.head _))))))))))))))))))))))) d22
          obtain rfl := h34
          refine stepQ_call (al := [.tmp 34]) [(34, _)] hU hmo hme hI hM (.tail _ (.tail _ (.tail _ (.tail _ (.tail _ (.tail _ (.tail _ (.tail _ (.tail _ (.tail _ (.tail _ (.tail _ (.tail _ (.tail _ (.tail _ (.tail _ (.tail _ (.tail _ (.tail _ (.tail _ (.tail _ (.tail _ (.tail _ (.head _)))))))))))))))))))))))) rfl (by kernel_rfl) ⟨e34, trivial⟩ RpcEnc_k21 ((flag_r dn _).mono ?_)
          rintro v w2 ⟨rfl, rfl⟩; exact ⟨From.rfl_, rfl⟩
        refine ⟨?_, ?_⟩
        · rintro S L' w28 hU hmo hme hI hM hC hS ⟨d1, d3, d5, d7, d9, d11, d13, d15, d17, d20, d23, -⟩
          have hM' := hM
          obtain ⟨hB28, hk1⟩ := hM'
          obtain ⟨v28_13, e13, h13⟩ := hI.get (i := 1) (.tail _ (.head _)) d1
          obtain rfl := h13
          obtain ⟨v28_15, e15, h15⟩ := hI.get (i := 3) (.tail _ (.tail _ (.tail _ (.head _)))) d3
          obtain rfl := h15
          obtain ⟨v28_17, e17, h17⟩ := hI.get (i := 5) (.tail _ (.tail _ (.tail _ (.tail _ (.tail _ (.head _)))))) d5
          obtain rfl := h17
          obtain ⟨v28_19, e19, h19⟩ := hI.get (i := 7) (.tail _ (.tail _ (.tail _ (.tail _ (.tail _ (.tail _ (.tail _ (.head _)))))))) d7
          obtain rfl := h19
          obtain ⟨v28_21, e21, h21⟩ := hI.get (i := 9) (.tail _ (.tail _ (.tail _ (.tail _ (.tail _ (.tail _ (.tail _ (.tail _ (.tail _ (.head _)))))))))) d9
          obtain rfl := h21
          obtain ⟨v28_23, e23, h23⟩ := hI.get (i := 11) (.tail _ (.tail _ (.tail _ (.tail _ (.tail _ (.tail _ (.tail _ (.tail _ (.tail _ (.tail _ (.tail _ (.head _)))))))))))) d11
          obtain rfl := h23
          obtain ⟨v28_25, e25, h25⟩ := hI.get (i := 13) (.tail _ (.tail _ (.tail _ (.tail _ (.tail _ (.tail _ (.tail _ (.tail _ (.tail _ (.tail _ (.tail _ (.tail _ (.tail _ (.head _)))))))))))))) d13
          obtain rfl := h25
          obtain ⟨v28_27, e27, h27⟩ := hI.get (i := 15) (.tail _ (.tail _ (.tail _ (.tail _ (.tail _ (.tail _ (.tail _ (.tail _ (.tail _ (.tail _ (.tail _ (.tail _ (.tail _ (.tail _ (.tail _ (.head _)))))))))))))))) d15
          obtain rfl := h27
          obtain ⟨v28_29, e29, h29⟩ := hI.get (i := 17) (.tail _ (.tail _ (.tail _ (.tail _ (.tail _ (.tail _ (.tail _ (.tail _ (.tail _ (.tail _ (.tail _ (.tail _ (.tail _ (.tail _ (.tail _ (.tail _ (.tail _ (.head _)))))))))))))))))) d17
          obtain rfl := h29
          obtain ⟨v28_32, e32, h32⟩ := hI.get (i := 20) (.tail _ (.tail _ (.tail _ (.tail _ (.tail _ (.tail _ (.tail _ (.tail _ (.tail _ (.tail _ (.tail _ (.tail _ (.tail _ (.tail _ (.tail _ (.tail _ (.tail _ (.tail _ (.tail _ (.tail _ (.head _))))))))))))))))))))) d20
          obtain rfl := h32
          obtain ⟨v28_35, e35, h35⟩ := hI.get (i := 23) (.tail _ (.tail _ (.tail _ (.tail _ (.tail _ (.tail _ (.tail _ (.tail _ (.tail _ (.tail _ (.tail _ (.tail _ (.tail _ (.tail _ (.tail _ (.tail _ (.tail _ (.tail _ (.tail _ (.tail _ (.tail _ (.tail _ (.tail _ (.head _)))))))))))))))))))))))) d23
          obtain rfl := h35
          exact stepQ_ro [(13, _), (15, _), (17, _), (19, _), (21, _), (23, _), (25, _), (27, _), (29, _), (32, _), (35, _)] hU hmo hme hI hM (.tail _ (.tail _ (.tail _ (.tail _ (.tail _ (.tail _ (.tail _ (.tail _ (.tail _ (.tail _ (.tail _ (.tail _ (.tail _ (.tail _ (.tail _ (.tail _ (.tail _ (.tail _ (.tail _ (.tail _ (.tail _ (.tail _ (.tail _ (.tail _ (.head _))))))))))))))))))))))))) rfl rfl (by kernel_rfl) ⟨e13, e15, e17, e19, e21, e23, e25, e27, e29, e32, e35, trivial⟩ (ro_lits [.tmp 13, .tmp 15, .tmp 17, .tmp 19, .tmp 21, .tmp 23, .tmp 25, .tmp 27, .tmp 29, .tmp 32, .tmp 35] ((hdR k f t tm ix lt cm rd ok a dn).map iV) RpcEnc_q64 rfl rfl rfl rfl (by intro v hv; simp only [List.mem_map] at hv; obtain ⟨x, _, rfl⟩ := hv; rfl)) (From.rfl_.new _) (⟨_, rfl, Blk.new _ _ _⟩)
        refine ⟨?_, ?_⟩
        · rintro S L' w29 hU hmo hme hI hM hC hS ⟨d24, d23, -⟩
          have hM' := hM
          obtain ⟨hB29, hk1⟩ := hM'
          obtain ⟨v29_36, e36, h36⟩ := hI.get (i := 24) (.tail _ (.tail _ (.tail _ (.tail _ (.tail _ (.tail _ (.tail _ (.tail _ (.tail _ (.tail _ (.tail _ (.tail _ (.tail _ (.tail _ (.tail _ (.tail _ (.tail _ (.tail _ (.tail _ (.tail _ (.tail _ (.tail _ (.tail _ (.tail _ (.head _))))))))))))))))))))))))) d24
          obtain ⟨g36, rfl, hk36⟩ := h36
          refine stepQ_call (al := [.tmp 36]) [(36, _)] hU hmo hme hI hM (.tail _ (.tail _ (.tail _ (.tail _ (.tail _ (.tail _ (.tail _ (.tail _ (.tail _ (.tail _ (.tail _ (.tail _ (.tail _ (.tail _ (.tail _ (.tail _ (.tail _ (.tail _ (.tail _ (.tail _ (.tail _ (.tail _ (.tail _ (.tail _ (.tail _ (.head _)))))))))))))))))))))))))) rfl (by kernel_rfl) ⟨e36, trivial⟩ RpcEnc_k20 ((nums_r g36 11 11 (hdR k f t tm ix lt cm rd ok a dn) _ rfl hk36 hx0 (by show 11 ≤ 1000; omega)).mono ?_)
          rintro v w2 ⟨⟨A', c', rfl, ho'⟩, E37⟩
          exact ⟨E37, A', c', rfl, own_le ho' hB29.size⟩
        refine ⟨?_, ?_⟩
        · rintro S L' w30 hU hmo hme hI hM hC hS ⟨d25, d25, d0, d1, d2, d3, d4, d5, d6, d7, d8, d9, d10, d11, d12, d13, d14, d15, d16, d17, d18, d19, d20, d21, d22, d23, d24, d25, -⟩
          have hM' := hM
          obtain ⟨hB30, hk1⟩ := hM'
          obtain ⟨v30_37, e37, h37⟩ := hI.get (i := 25) (.tail _ (.tail _ (.tail _ (.tail _ (.tail _ (.tail _ (.tail _ (.tail _ (.tail _ (.tail _ (.tail _ (.tail _ (.tail _ (.tail _ (.tail _ (.tail _ (.tail _ (.tail _ (.tail _ (.tail _ (.tail _ (.tail _ (.tail _ (.tail _ (.tail _ (.head _)))))))))))))))))))))))))) d25
          obtain ⟨A37, c37, rfl, ho37⟩ := h37
          exact stepQ_ro [(37, _)] hU hmo hme hI hM (.tail _ (.tail _ (.tail _ (.tail _ (.tail _ (.tail _ (.tail _ (.tail _ (.tail _ (.tail _ (.tail _ (.tail _ (.tail _ (.tail _ (.tail _ (.tail _ (.tail _ (.tail _ (.tail _ (.tail _ (.tail _ (.tail _ (.tail _ (.tail _ (.tail _ (.tail _ (.head _))))))))))))))))))))))))))) rfl rfl (by kernel_rfl) ⟨e37, trivial⟩ (ro_assign rfl) (From.rfl_) (⟨A37, c37, rfl, ho37⟩)
        exact trivial
       case hend =>
        intro w31 hM
        obtain ⟨hB31, hk1⟩ := hM
        rintro v31_12 rfl v31_13 rfl v31_14 rfl v31_15 rfl v31_16 rfl v31_17 rfl v31_18 rfl v31_19 rfl v31_20 rfl v31_21 rfl v31_22 rfl v31_23 rfl v31_24 rfl v31_25 rfl v31_26 rfl v31_27 rfl v31_28 rfl v31_29 rfl v31_30 rfl v31_31 rfl v31_32 rfl v31_33 rfl v31_34 rfl v31_35 rfl v31_36 ⟨g36, rfl, hk36⟩ v31_37 ⟨A37, c37, rfl, ho37⟩ v31_4 ⟨A4, c4, rfl, ho4⟩
        refine allP_nil ?_
        refine nx_then ?_
        refine cd_seq ?_
        refine cd_region ?_
        refine st_val (ro_move (v := .slice _ _ _) rfl) ?_
        refine st_val (ro_fieldAddr RpcEnc_f27_11 rfl) ?_
        refine st_val (ro_load RpcEnc_g9 rfl (by exact (hk1.from_ From.rfl_).rd 11 rfl)) ?_
        refine st_lit1 (v := .string _) RpcEnc_q46 rfl rfl rfl ?_
        intro b41 w32 E41 hb41 hk41
        refine st_push1 (a0 := w) RpcEnc_q46 rfl rfl (ho4.kept_from E41) (hB31.next E41) rfl hk41 rfl (by omega) (by omega) ?_
        intro A42 c42 w33 ho42 B42 hg42
        replace hk1 := (hk1.from_ E41).grown hg42 (own_off (ho4.kept_from E41) (hk1.from_ E41) (by decide))
        refine st_val (ro_assign (v := .slice _ _ _) rfl) ?_
        refine st_nil ?_
        refine nx_then ?_
        refine cd_seq ?_
        refine cd_seq ?_
        refine cd_region ?_
        refine st_val (ro_fieldAddr RpcEnc_f27_9 rfl) ?_
        refine st_val (ro_load RpcEnc_g25 rfl (by exact (hk1.from_ From.rfl_).rd 9 rfl)) ?_
        refine st_val (ro_len RpcEnc_l25 rfl) ?_
        refine st_val (ro_move (v := .int _ _) rfl) ?_
        refine st_nil ?_
        refine nx_then ?_
        refine cd_block ?_
        refine cd_loop (G := Nat × Option Addr × Nat) [6, 47, 48, 49, 50, 51, 52, 53, 54, 55, 56, 57, 58, 59, 60, 61, 62] (fun (j, A4, c4) => [(4, .slice A4 (12 + 3 * j) c4), (46, .int .i64 (j : Nat))]) (fun (j, A4, c4) w' => j ≤ es.length ∧ w'.ownsRow w.heap.size 9 1 (.slice A4 (12 + 3 * j) c4) (12 + 3 * j) ((numsS (hdR k f t tm ix lt cm rd ok a dn) ++ [d] ++ tsE (es.take j)).map Value.string) ∧ Blk w' b1 27 #[.int .i64 k, .int .i64 f, .int .i64 t, .int .i64 tm, .int .i64 ix, .int .i64 lt, .int .i64 cm, .int .i64 rd, .bool ok, .slice E n c, .int .i64 a, .string d, .bool dn] ∧ From w w') (fun (j, _, _) => es.length - j) ((0, A42, c42)) ⟨rfl, rfl, trivial⟩ ?_ ?_
        · exact ⟨Nat.zero_le _, by rw [List.take_zero, show tsE [] = [] from rfl, List.append_nil, List.map_append]; exact ho42, hk1.from_ From.rfl_, B42⟩
        rintro ⟨j, A4, c4⟩ ρ34 w34 ⟨hj, ho4, hk1, hB⟩
        refine cd_seq ?_
        refine cd_region ?_
        refine st_val (ro_lss rfl rfl) ?_
        refine st_nil ?_
        refine nx_then ?_
        refine cd_seq ?_
        refine cd_cond rfl (fun Q35 => ?_) (fun Q35 => ?_)
        · (try first | replace Q35 := bn_t Q35 | replace Q35 := bn_f Q35)
          (try first | replace Q35 := bx_t Q35 | replace Q35 := bx_f Q35 | replace Q35 := be_t Q35 | replace Q35 := be_f Q35 | replace Q35 := of_decide_eq_true Q35 | replace Q35 := of_decide_eq_false Q35)
          have hjx : j < es.length := by omega
          obtain ⟨bE, oE, rfl, hcs⟩ := ent_at he (by omega)
          have hej := hesb _ (List.getElem_mem hjx)
          first
           | (exfalso; first | omega | contradiction | (cases Q35; done))
           | skip
             refine cd_skip ?_
             refine nx_then ?_
             refine cd_seq ?_
             refine cd_block ?_
             refine cd_seq ?_
             refine cd_region ?_
             refine st_val (ro_indexAddrN RpcEnc_e25 rfl rfl (by omega)) ?_
             refine st_val (ro_loadA (cs := [_, _, _]) RpcEnc_g41 RpcEnc_z41 rfl (by exact rangeF hB (hcs j hjx))) ?_
             refine st_alloc RpcEnc_o41 ?_
             intro b6 w36 E6 hb6 hk6
             have hg6 : w.heap.size ≤ b6 := by rw [hb6]; exact (hB).size
             refine st_putW (vs := [_, _, _]) RpcEnc_z41 rfl rfl (by simp [Value.oneCell']) (hk6) rfl ?_
             intro w37 O7 P7
             replace hk1 := (hk1.from_ E6).only O7 (by have := hk1.lt; omega)
             replace ho4 := own_only3 (ho4.kept_from E6) O7 (own_off (ho4.kept_from E6) hk6 (by decide))
             have hlt4 : ∀ q, A4.map (·.block) = some q → q < w37.heap.size := fun q hq => (own_at ho4 q hq).2
             refine st_nil ?_
             refine nx_then ?_
             apply cd_invP [(0, 50, fun _ v _ => v = _), (1, 51, fun _ v _ => v = _), (2, 52, fun _ v _ => v = _), (3, 53, fun _ v _ => v = _), (4, 54, fun _ v _ => v = _), (5, 55, fun S v w' => ∃ g, v = .slice (some ⟨g, 0, none⟩) 2 2 ∧ (S 7 = false → Blk w' g 3 #[.int .i64 es[j].i, .int .i64 es[j].t])), (6, 56, fun S v w' => ∃ A' c', v = .slice A' 2 c' ∧ (S 7 = false → w'.ownsRow w.heap.size 9 1 (.slice A' 2 c') 2 ([Value.string (strOf (nums es[j].i.toNat)), Value.string (strOf (nums es[j].t.toNat))]))), (7, 57, fun S v w' => ∃ A' c', v = .slice A' (12 + 3 * j + 2) c' ∧ (S 11 = false → w'.ownsRow w.heap.size 9 1 (.slice A' (12 + 3 * j + 2) c') (12 + 3 * j + 2) ((numsS (hdR k f t tm ix lt cm rd ok a dn) ++ [d] ++ tsE (es.take j)).map Value.string ++ [Value.string (strOf (nums es[j].i.toNat)), Value.string (strOf (nums es[j].t.toNat))]))), (8, 58, fun _ v _ => v = _), (9, 59, fun _ v _ => v = _), (10, 60, fun S v w' => ∃ g, v = .slice (some ⟨g, 0, none⟩) 1 1 ∧ (∀ q, A4.map (·.block) = some q → q ≠ g) ∧ (S 11 = false → Blk w' g 9 #[.string es[j].d])), (11, 61, fun S v w' => ∃ A' c', v = .slice A' (12 + 3 * j + 2 + 1) c' ∧ w'.ownsRow w.heap.size 9 1 (.slice A' (12 + 3 * j + 2 + 1) c') (12 + 3 * j + 2 + 1) ((numsS (hdR k f t tm ix lt cm rd ok a dn) ++ [d] ++ tsE (es.take j)).map Value.string ++ [Value.string (strOf (nums es[j].i.toNat)), Value.string (strOf (nums es[j].t.toNat))] ++ [Value.string es[j].d])), (12, 4, fun S v w' => ∃ A' c', v = .slice A' (12 + 3 * j + 2 + 1) c' ∧ w'.ownsRow w.heap.size 9 1 (.slice A' (12 + 3 * j + 2 + 1) c') (12 + 3 * j + 2 + 1) ((numsS (hdR k f t tm ix lt cm rd ok a dn) ++ [d] ++ tsE (es.take j)).map Value.string ++ [Value.string (strOf (nums es[j].i.toNat)), Value.string (strOf (nums es[j].t.toNat))] ++ [Value.string es[j].d]))] [7, 11] (fun S w' => w37.heap.size ≤ w'.heap.size ∧ From w w' ∧ Blk w' b1 27 #[.int .i64 k, .int .i64 f, .int .i64 t, .int .i64 tm, .int .i64 ix, .int .i64 lt, .int .i64 cm, .int .i64 rd, .bool ok, .slice (some ⟨bE, oE, none⟩) n c, .int .i64 a, .string d, .bool dn] ∧ Blk w' b6 41 #[.int .i64 es[j].i, .int .i64 es[j].t, .string es[j].d] ∧ (S 7 = false → w'.ownsRow w.heap.size 9 1 (.slice A4 (12 + 3 * j) c4) (12 + 3 * j) ((numsS (hdR k f t tm ix lt cm rd ok a dn) ++ [d] ++ tsE (es.take j)).map Value.string))) (by kernel_rfl) (by kernel_rfl) rfl rfl ⟨fun _ _ _ _ _ _ _ h => h, fun _ _ _ _ _ _ _ h => h, fun _ _ _ _ _ _ _ h => h, fun _ _ _ _ _ _ _ h => h, fun _ _ _ _ _ _ _ h => h, fun S i v w1 w2 hq hF ⟨g, h1, h2⟩ => ⟨g, h1, fun h0 => (h2 (setF h0)).from_ hF⟩, fun S i v w1 w2 hq hF ⟨g, c', h1, h2⟩ => ⟨g, c', h1, fun h0 => (h2 (setF h0)).kept_from hF⟩, fun S i v w1 w2 hq hF ⟨g, c', h1, h2⟩ => ⟨g, c', h1, fun h0 => (h2 (setF h0)).kept_from hF⟩, fun _ _ _ _ _ _ _ h => h, fun _ _ _ _ _ _ _ h => h, fun S i v w1 w2 hq hF ⟨g, h1, h2, h3⟩ => ⟨g, h1, h2, fun h0 => (h3 (setF h0)).from_ hF⟩, fun S i v w1 w2 hq hF ⟨g, c', h1, h2⟩ => ⟨g, c', h1, h2.kept_from hF⟩, fun S i v w1 w2 hq hF ⟨g, c', h1, h2⟩ => ⟨g, c', h1, h2.kept_from hF⟩, trivial⟩ (fun S i w1 w2 hq hF h => ⟨Nat.le_trans h.1 hF.size, h.2.1.next hF, h.2.2.1.from_ hF, h.2.2.2.1.from_ hF, fun h0 => (h.2.2.2.2 (setF h0)).kept_from hF⟩) (⟨Nat.le_refl _, (((hB.next E6).only O7 (hg6))).d1, hk1.from_ From.rfl_.d1, P7.from_ From.rfl_.d1, fun _ => ho4.kept_from From.rfl_.d1⟩)
             case hstep =>
              refine ⟨?_, ?_⟩
              · rintro S L' w38 hU hmo hme hI hM hC hS ⟨-⟩
                have hM' := hM
                obtain ⟨hz, hB38, hk1, hk6, ho4⟩ := hM'
                have e4 := hI.old (i := 12) (.tail _ (.tail _ (.tail _ (.tail _ (.tail _ (.tail _ (.tail _ (.tail _ (.tail _ (.tail _ (.tail _ (.tail _ (.head _))))))))))))) (closed_old hC (j := 12) rfl (by kernel_rfl) hS)
                exact stepQ_ro [(4, _)] hU hmo hme hI hM (.head _) rfl rfl (by kernel_rfl) ⟨e4, trivial⟩ (ro_move (v := .slice _ _ _) rfl) From.rfl_ rfl
              refine ⟨?_, ?_⟩
              · rintro S L' w39 hU hmo hme hI hM hC hS ⟨-⟩
                have hM' := hM
                obtain ⟨hz, hB39, hk1, hk6, ho4⟩ := hM'
                have e6 := hI.1 6 (outP rfl)
                exact stepQ_ro [(6, _)] hU hmo hme hI hM (.tail _ (.head _)) rfl rfl (by kernel_rfl) ⟨e6, trivial⟩ (ro_fieldAddr RpcEnc_f41_0 rfl) From.rfl_ rfl
              refine ⟨?_, ?_⟩
              · rintro S L' w40 hU hmo hme hI hM hC hS ⟨d1, -⟩
                have hM' := hM
                obtain ⟨hz, hB40, hk1, hk6, ho4⟩ := hM'
                obtain ⟨v40_51, e51, h51⟩ := hI.get (i := 1) (.tail _ (.head _)) d1
                obtain rfl := h51
                exact stepQ_ro [(51, _)] hU hmo hme hI hM (.tail _ (.tail _ (.head _))) rfl rfl (by kernel_rfl) ⟨e51, trivial⟩ (ro_load RpcEnc_g3 rfl (by exact hk6.rd 0 rfl)) From.rfl_ rfl
              refine ⟨?_, ?_⟩
              · rintro S L' w41 hU hmo hme hI hM hC hS ⟨-⟩
                have hM' := hM
                obtain ⟨hz, hB41, hk1, hk6, ho4⟩ := hM'
                have e6 := hI.1 6 (outP rfl)
                exact stepQ_ro [(6, _)] hU hmo hme hI hM (.tail _ (.tail _ (.tail _ (.head _)))) rfl rfl (by kernel_rfl) ⟨e6, trivial⟩ (ro_fieldAddr RpcEnc_f41_1 rfl) From.rfl_ rfl
              refine ⟨?_, ?_⟩
              · rintro S L' w42 hU hmo hme hI hM hC hS ⟨d3, -⟩
                have hM' := hM
                obtain ⟨hz, hB42, hk1, hk6, ho4⟩ := hM'
                obtain ⟨v42_53, e53, h53⟩ := hI.get (i := 3) (.tail _ (.tail _ (.tail _ (.head _)))) d3
                obtain rfl := h53
                exact stepQ_ro [(53, _)] hU hmo hme hI hM (.tail _ (.tail _ (.tail _ (.tail _ (.head _))))) rfl rfl (by kernel_rfl) ⟨e53, trivial⟩ (ro_load RpcEnc_g3 rfl (by exact hk6.rd 1 rfl)) From.rfl_ rfl
              refine ⟨?_, ?_⟩
              · rintro S L' w43 hU hmo hme hI hM hC hS ⟨d2, d4, -⟩
                have hM' := hM
                obtain ⟨hz, hB43, hk1, hk6, ho4⟩ := hM'
                obtain ⟨v43_52, e52, h52⟩ := hI.get (i := 2) (.tail _ (.tail _ (.head _))) d2
                obtain rfl := h52
                obtain ⟨v43_54, e54, h54⟩ := hI.get (i := 4) (.tail _ (.tail _ (.tail _ (.tail _ (.head _))))) d4
                obtain rfl := h54
                exact stepQ_ro [(52, _), (54, _)] hU hmo hme hI hM (.tail _ (.tail _ (.tail _ (.tail _ (.tail _ (.head _)))))) rfl rfl (by kernel_rfl) ⟨e52, e54, trivial⟩ (ro_lits [.tmp 52, .tmp 54] [.int .i64 es[j].i, .int .i64 es[j].t] RpcEnc_q64 rfl rfl rfl rfl (by simp [Value.cells])) (From.rfl_.new _) (⟨_, rfl, fun _ => Blk.new _ _ _⟩)
              refine ⟨?_, ?_⟩
              · rintro S L' w44 hU hmo hme hI hM hC hS ⟨d5, -⟩
                have hM' := hM
                obtain ⟨hz, hB44, hk1, hk6, ho4⟩ := hM'
                obtain ⟨v44_55, e55, h55⟩ := hI.get (i := 5) (.tail _ (.tail _ (.tail _ (.tail _ (.tail _ (.head _)))))) d5
                obtain ⟨g55, rfl, hk55⟩ := h55
                refine stepQ_call (al := [.tmp 55]) [(55, _)] hU hmo hme hI hM (.tail _ (.tail _ (.tail _ (.tail _ (.tail _ (.tail _ (.head _))))))) rfl (by kernel_rfl) ⟨e55, trivial⟩ RpcEnc_k20 ((nums_r g55 2 2 [es[j].i, es[j].t] _ rfl (hk55 (closed_old hC (j := 7) rfl (by kernel_rfl) hS)) (by intro x hx; simp only [List.mem_cons, List.not_mem_nil, or_false] at hx; omega) (by simp)).mono ?_)
                rintro v w2 ⟨⟨A', c', rfl, ho'⟩, E56⟩
                exact ⟨E56, A', c', rfl, fun _ => own_le ho' hB44.size⟩
              refine ⟨?_, ?_⟩
              · rintro S L' w45 hU hmo hme hI hM hC hS ⟨d0, d6, d6, -⟩
                have hM' := hM
                obtain ⟨hz, hB45, hk1, hk6, ho4⟩ := hM'
                obtain ⟨v45_50, e50, h50⟩ := hI.get (i := 0) (.head _) d0
                obtain rfl := h50
                obtain ⟨v45_56, e56, h56⟩ := hI.get (i := 6) (.tail _ (.tail _ (.tail _ (.tail _ (.tail _ (.tail _ (.head _))))))) d6
                obtain ⟨A56, c56, rfl, ho56⟩ := h56
                have h7 := ho4 hS
                obtain ⟨A', c', w2, hR, ho, hg⟩ := ro_appendB (P := Tryd.prog) (ρ := ev 74 [(50, _), (56, _)]) (s := .tmp 50) (x := .tmp 56) (j := 2) RpcEnc_q46 rfl (by decide) rfl h7 hB45.size rfl rfl (own_src (ho56 hS) (by omega)) (by simp [Value.oneCell']) (by omega) (by omega)
                exact stepM_ro [(50, _), (56, _)] hU hI (.tail _ (.tail _ (.tail _ (.tail _ (.tail _ (.tail _ (.tail _ (.head _)))))))) rfl (by kernel_rfl) ⟨e50, e56, trivial⟩ hR ⟨Nat.le_trans hz hg.size, hB45.grew hg (fun q hq => (own_at h7 q hq).1), hk1.grown hg (own_off h7 hk1 (by decide)), hk6.grown hg (own_off h7 hk6 (by decide)), fun h0 => (by rw [setS] at h0; cases h0)⟩ ⟨A', c', rfl, fun _ => ho⟩ ⟨fun _ _ _ h => h, fun _ _ _ h => h, fun _ _ _ h => h, fun _ _ _ h => h, fun _ _ _ h => h, fun _ _ _ ⟨g, h1, h2⟩ => ⟨g, h1, fun h0 => (by rw [setS] at h0; cases h0)⟩, fun _ _ _ ⟨g, c2, h1, h2⟩ => ⟨g, c2, h1, fun h0 => (by rw [setS] at h0; cases h0)⟩, (fun h => by cases h), fun _ _ _ h => h, fun _ _ _ h => h, fun _ _ _ ⟨g, h1, h2, h3⟩ => ⟨g, h1, h2, fun h0 => (h3 (setF h0)).grown hg h2⟩, (fun _ h0 => by rw [closed_old hC (j := 11) rfl (by kernel_rfl) hS] at h0; cases h0), (fun _ h0 => by rw [closed_old hC (j := 12) rfl (by kernel_rfl) hS] at h0; cases h0), trivial⟩
              refine ⟨?_, ?_⟩
              · rintro S L' w46 hU hmo hme hI hM hC hS ⟨-⟩
                have hM' := hM
                obtain ⟨hz, hB46, hk1, hk6, ho4⟩ := hM'
                have e6 := hI.1 6 (outP rfl)
                exact stepQ_ro [(6, _)] hU hmo hme hI hM (.tail _ (.tail _ (.tail _ (.tail _ (.tail _ (.tail _ (.tail _ (.tail _ (.head _))))))))) rfl rfl (by kernel_rfl) ⟨e6, trivial⟩ (ro_fieldAddr RpcEnc_f41_2 rfl) From.rfl_ rfl
              refine ⟨?_, ?_⟩
              · rintro S L' w47 hU hmo hme hI hM hC hS ⟨d8, -⟩
                have hM' := hM
                obtain ⟨hz, hB47, hk1, hk6, ho4⟩ := hM'
                obtain ⟨v47_58, e58, h58⟩ := hI.get (i := 8) (.tail _ (.tail _ (.tail _ (.tail _ (.tail _ (.tail _ (.tail _ (.tail _ (.head _))))))))) d8
                obtain rfl := h58
                exact stepQ_ro [(58, _)] hU hmo hme hI hM (.tail _ (.tail _ (.tail _ (.tail _ (.tail _ (.tail _ (.tail _ (.tail _ (.tail _ (.head _)))))))))) rfl rfl (by kernel_rfl) ⟨e58, trivial⟩ (ro_load RpcEnc_g9 rfl (by exact hk6.rd 2 rfl)) From.rfl_ rfl
              refine ⟨?_, ?_⟩
              · rintro S L' w48 hU hmo hme hI hM hC hS ⟨d9, -⟩
                have hM' := hM
                obtain ⟨hz, hB48, hk1, hk6, ho4⟩ := hM'
                obtain ⟨v48_59, e59, h59⟩ := hI.get (i := 9) (.tail _ (.tail _ (.tail _ (.tail _ (.tail _ (.tail _ (.tail _ (.tail _ (.tail _ (.head _)))))))))) d9
                obtain rfl := h59
                exact stepQ_ro [(59, _)] hU hmo hme hI hM (.tail _ (.tail _ (.tail _ (.tail _ (.tail _ (.tail _ (.tail _ (.tail _ (.tail _ (.tail _ (.head _))))))))))) rfl rfl (by kernel_rfl) ⟨e59, trivial⟩ (ro_lit1 (v := .string es[j].d) RpcEnc_q46 rfl rfl rfl) (From.rfl_.new _) (⟨_, rfl, fun q hq => by have := hlt4 q hq; omega, fun _ => Blk.new _ _ _⟩)
              refine ⟨?_, ?_⟩
              · rintro S L' w49 hU hmo hme hI hM hC hS ⟨d7, d10, d7, -⟩
                have hM' := hM
                obtain ⟨hz, hB49, hk1, hk6, ho4⟩ := hM'
                obtain ⟨v49_57, e57, h57⟩ := hI.get (i := 7) (.tail _ (.tail _ (.tail _ (.tail _ (.tail _ (.tail _ (.tail _ (.head _)))))))) d7
                obtain ⟨A57, c57, rfl, ho57⟩ := h57
                obtain ⟨v49_60, e60, h60⟩ := hI.get (i := 10) (.tail _ (.tail _ (.tail _ (.tail _ (.tail _ (.tail _ (.tail _ (.tail _ (.tail _ (.tail _ (.head _))))))))))) d10
                obtain ⟨g60, rfl, hx60, hk60⟩ := h60
                have h11 := ho57 hS
                obtain ⟨A', c', w2, hR, ho, hg⟩ := ro_appendB (P := Tryd.prog) (ρ := ev 74 [(57, _), (60, _)]) (s := .tmp 57) (x := .tmp 60) (j := 1) (news := [.string es[j].d]) RpcEnc_q46 rfl (by decide) rfl h11 hB49.size rfl rfl ⟨g60, 0, rfl, (hk60 hS).whole⟩ (by simp [Value.oneCell']) (by omega) (by omega)
                have s7 : S 7 = true := d7
                exact stepM_ro [(57, _), (60, _)] hU hI (.tail _ (.tail _ (.tail _ (.tail _ (.tail _ (.tail _ (.tail _ (.tail _ (.tail _ (.tail _ (.tail _ (.head _)))))))))))) rfl (by kernel_rfl) ⟨e57, e60, trivial⟩ hR ⟨Nat.le_trans hz hg.size, hB49.grew hg (fun q hq => (own_at h11 q hq).1), hk1.grown hg (own_off h11 hk1 (by decide)), hk6.grown hg (own_off h11 hk6 (by decide)), fun h0 => (by rw [setN (by decide), s7] at h0; cases h0)⟩ ⟨A', c', rfl, ho⟩ ⟨fun _ _ _ h => h, fun _ _ _ h => h, fun _ _ _ h => h, fun _ _ _ h => h, fun _ _ _ h => h, fun _ _ _ ⟨g, h1, h2⟩ => ⟨g, h1, fun h0 => (by rw [setN (by decide), s7] at h0; cases h0)⟩, fun _ _ _ ⟨g, c2, h1, h2⟩ => ⟨g, c2, h1, fun h0 => (by rw [setN (by decide), s7] at h0; cases h0)⟩, fun _ _ _ ⟨g, c2, h1, h2⟩ => ⟨g, c2, h1, fun h0 => (by rw [setS] at h0; cases h0)⟩, fun _ _ _ h => h, fun _ _ _ h => h, fun _ _ _ ⟨g, h1, h2, h3⟩ => ⟨g, h1, h2, fun h0 => (by rw [setS] at h0; cases h0)⟩, (fun h => by cases h), (fun _ h0 => by rw [closed_old hC (j := 12) rfl (by kernel_rfl) hS] at h0; cases h0), trivial⟩
              refine ⟨?_, ?_⟩
              · rintro S L' w50 hU hmo hme hI hM hC hS ⟨d11, d11, d0, d1, d2, d3, d4, d5, d6, d7, d8, d9, d10, d11, -⟩
                have hM' := hM
                obtain ⟨hz, hB50, hk1, hk6, ho4⟩ := hM'
                obtain ⟨v50_61, e61, h61⟩ := hI.get (i := 11) (.tail _ (.tail _ (.tail _ (.tail _ (.tail _ (.tail _ (.tail _ (.tail _ (.tail _ (.tail _ (.tail _ (.head _)))))))))))) d11
                obtain ⟨A61, c61, rfl, ho61⟩ := h61
                exact stepQ_ro [(61, _)] hU hmo hme hI hM (.tail _ (.tail _ (.tail _ (.tail _ (.tail _ (.tail _ (.tail _ (.tail _ (.tail _ (.tail _ (.tail _ (.tail _ (.head _))))))))))))) rfl rfl (by kernel_rfl) ⟨e61, trivial⟩ (ro_assign rfl) (From.rfl_) (⟨A61, c61, rfl, ho61⟩)
              exact trivial
             case hend =>
              intro w51 hM
              obtain ⟨hz, hB51, hk1, hk6, ho4⟩ := hM
              rintro v51_50 rfl v51_51 rfl v51_52 rfl v51_53 rfl v51_54 rfl v51_55 ⟨g55, rfl, hk55⟩ v51_56 ⟨A56, c56, rfl, ho56⟩ v51_57 ⟨A57, c57, rfl, ho57⟩ v51_58 rfl v51_59 rfl v51_60 ⟨g60, rfl, hx60, hk60⟩ v51_61 ⟨A61, c61, rfl, ho61⟩ v51_4 ⟨A40, c40, rfl, ho40⟩
              refine allP_nil ?_
              refine nx_block ?_
              refine nx_then ?_
              refine cd_region ?_
              refine st_val (ro_addN (b := 1) rfl rfl (by omega)) ?_
              refine st_val (ro_move (v := .int _ _) rfl) ?_
              refine st_nil ?_
              refine nx_cut ((j + 1, A40, c40)) ⟨(by first | rfl | (refine int_eq ?_; omega)), (by first | rfl | (refine int_eq ?_; omega)), trivial⟩ (by (iterate 38 refine agr_cons rfl ?_); exact agr_rfl) ⟨?_, ?_⟩
              · exact ⟨by omega, by rw [show 12 + 3 * (j + 1) = 12 + 3 * j + 2 + 1 by omega, tsE_step hjx]; exact ho40, hk1, hB51⟩
              · show es.length - (j + 1) < es.length - j; omega
        · (try first | replace Q35 := bn_t Q35 | replace Q35 := bn_f Q35)
          (try first | replace Q35 := bx_t Q35 | replace Q35 := bx_f Q35 | replace Q35 := be_t Q35 | replace Q35 := be_f Q35 | replace Q35 := of_decide_eq_true Q35 | replace Q35 := of_decide_eq_false Q35)
          obtain rfl : j = es.length := by omega
          rw [List.take_length] at ho4
          have hl4 : 12 + 3 * es.length = (tsR k f t tm ix lt cm rd ok es a d dn).length := by unfold tsR; rw [List.length_append, List.length_append, tsE_len, numsS_len]; rfl
          first
           | (exfalso; first | omega | contradiction | (cases Q35; done))
           | skip
             refine cd_exit ?_
             refine ex_then ?_
             refine ex_then ?_
             refine ex_block ?_
             refine nx_then ?_
             refine cd_seq ?_
             refine cd_region ?_
             refine st_val (ro_move (v := .slice _ _ _) rfl) ?_
             have hB64 := (hB).size
             refine st_call RpcEnc_k22 (put_n A4 c4 _ N (tsR k f t tm ix lt cm rd ok es a d dn) _ hl4 hN (RowC.of_own ho4) hs9 hfit) ?_
             rintro v65 w52 ⟨A65, c65, rfl, ho65, E65⟩
             refine st_val (ro_move (v := .tuple _) rfl) ?_
             refine st_val (ro_extract rfl rfl) ?_
             refine st_val (ro_extract rfl rfl) ?_
             refine st_val (ro_assign (v := .slice _ _ _) rfl) ?_
             refine st_val (ro_assign (v := .int _ _) rfl) ?_
             refine st_nil ?_
             refine nx_then ?_
             refine cd_seq ?_
             refine cd_seq ?_
             refine cd_region ?_
             refine st_val (ro_move (v := .int _ _) rfl) ?_
             refine st_val (ro_neq rfl rfl) ?_
             refine st_nil ?_
             refine nx_then ?_
             refine cd_cond rfl (fun Q53 => ?_) (fun Q53 => ?_)
             · (try first | replace Q53 := bn_t Q53 | replace Q53 := bn_f Q53)
               (try first | replace Q53 := bx_t Q53 | replace Q53 := bx_f Q53 | replace Q53 := be_t Q53 | replace Q53 := be_f Q53 | replace Q53 := of_decide_eq_true Q53 | replace Q53 := of_decide_eq_false Q53)
               first
                | (exfalso; first | omega | contradiction | (cases Q53; done))
                | skip
                  refine cd_seq ?_
                  refine cd_region ?_
                  refine st_val (ro_assign (v := .slice _ _ _) rfl) ?_
                  refine st_val (ro_assign (v := .int _ _) rfl) ?_
                  refine st_nil ?_
                  refine nx_then ?_
                  refine cd_ret ?_
                  refine rt_then ?_
                  refine res2 (v := .slice _ _ _) (v' := .int _ _) rfl rfl rfl ?_
                  exact ⟨⟨A73, c73, rfl, by unfold encR bytesV; rw [List.map_append]; exact ho73⟩, (hB.next E65)⟩
             · (try first | replace Q53 := bn_t Q53 | replace Q53 := bn_f Q53)
               (try first | replace Q53 := bx_t Q53 | replace Q53 := bx_f Q53 | replace Q53 := be_t Q53 | replace Q53 := be_f Q53 | replace Q53 := of_decide_eq_true Q53 | replace Q53 := of_decide_eq_false Q53)
               first
                | (exfalso; first | omega | contradiction | (cases Q53; done))
                | skip
                  refine cd_skip ?_
                  refine nx_then ?_
                  refine cd_seq ?_
                  refine cd_region ?_
                  refine st_val (ro_move (v := .slice _ _ _) rfl) ?_
                  refine st_val (ro_move (v := .slice _ _ _) rfl) ?_
                  refine st_call RpcEnc_k16 (ck_r A65 c65 N (putB (tsR k f t tm ix lt cm rd ok es a d dn)) _ (RowC.of_own ho65) hb9 (by omega) (hT.from_ (hB.next E65))) ?_
                  rintro v72 w54 ⟨⟨g72, rfl, hg72, hk72⟩, E72⟩
                  refine st_append (a0 := w) RpcEnc_q23 rfl (by decide) rfl ((own_le ho65 hB64).kept_from E72) ((hB.next E65).next E72) rfl (by rfl) (fun _ => ⟨g72, 0, rfl, hk72.whole⟩) (fun h => by cases h) (by intro u hu; simp only [List.mem_map] at hu; obtain ⟨x, _, rfl⟩ := hu; rfl) (by omega) (by omega) ?_
                  intro A73 c73 w55 ho73 B73 hg73
                  refine st_val (ro_assign (v := .slice _ _ _) rfl) ?_
                  refine st_val (ro_assign (v := .int _ _) rfl) ?_
                  refine st_nil ?_
                  refine nx_then ?_
                  refine cd_ret ?_
                  refine res2 (v := .slice _ _ _) (v' := .int _ _) rfl rfl rfl ?_
                  exact ⟨⟨A73, c73, rfl, by unfold encR bytesV; rw [List.map_append]; exact ho73⟩, B73⟩
end Go.Proofs.YtjliefglelcooaaDoor
