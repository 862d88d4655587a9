/- Rows of entries that grow: appends of entries, slices.Grow and slices.Concat. -/
import Derived.Test.YtnnknoohhoifbaaEntMath
import Derived.Lib.AppendZeros
import Derived.Laws.AppendOwnNone
import Derived.OwnWalk
namespace Go.Proofs.Ytnnknoohhoifbaa
open Go.RowKit

def entV (xs : List Ent) : List Value := xs.flatMap fun x => [.int .i64 x.i, .int .i64 x.t, .string x.d]
theorem entV_append (xs ys : List Ent) : entV (xs ++ ys) = entV xs ++ entV ys := by simp [entV]
theorem entV_length : ∀ (xs : List Ent), (entV xs).length = xs.length * 3
  | [] => rfl
  | x :: r => by
    have h : entV (x :: r) = .int .i64 x.i :: .int .i64 x.t :: .string x.d :: entV r := rfl
    rw [h]
    simp only [List.length_cons, entV_length r]
    omega
theorem entV_one : ∀ (xs : List Ent), ∀ u ∈ entV xs, u.oneCell' = true := by
  intro xs u hu
  simp only [entV, List.mem_flatMap] at hu
  obtain ⟨x, _, hu⟩ := hu
  simp only [List.mem_cons, List.not_mem_nil, or_false] at hu
  rcases hu with rfl | rfl | rfl <;> rfl
theorem entV_at : ∀ (xs : List Ent) (j : Nat) (u : Value), (entV xs)[j]? = some u → ∃ (i r : Nat) (h : i < xs.length), j = i * 3 + r ∧ ((r = 0 ∧ u = .int .i64 xs[i].i) ∨ (r = 1 ∧ u = .int .i64 xs[i].t) ∨ (r = 2 ∧ u = .string xs[i].d))
  | [], j, u, h => by simp [entV] at h
  | x :: r, j, u, h => by
    have hc : entV (x :: r) = .int .i64 x.i :: .int .i64 x.t :: .string x.d :: entV r := rfl
    rw [hc] at h
    match j, h with
    | 0, h => exact ⟨0, 0, by simp, by omega, .inl ⟨rfl, by simpa using h.symm⟩⟩
    | 1, h => exact ⟨0, 1, by simp, by omega, .inr (.inl ⟨rfl, by simpa using h.symm⟩)⟩
    | 2, h => exact ⟨0, 2, by simp, by omega, .inr (.inr ⟨rfl, by simpa using h.symm⟩)⟩
    | j + 3, h =>
      obtain ⟨i, q, hi, hj, hq⟩ := entV_at r j u (by simpa using h)
      exact ⟨i + 1, q, by simpa using hi, by omega, by simpa using hq⟩
theorem Ents.cellV {w : World} {A : Option Addr} {n cap : Nat} {xs : List Ent} (h : Ents w (.slice A n cap) xs) {ad : Addr} (hA : A = some ad) : ∀ j u, (entV xs)[j]? = some u → w.cell? (ad.add j) = some u := by
  intro j u hu
  obtain ⟨A', c', hv, _, _, _, hp⟩ := h
  simp only [Value.slice.injEq] at hv
  obtain ⟨rfl, rfl, rfl⟩ := hv
  obtain ⟨i, r, hi, rfl, hr⟩ := entV_at xs j u hu
  obtain ⟨b, o, hA', hb, hc⟩ := hp (by omega)
  rw [hA] at hA'
  simp only [Option.some.injEq] at hA'
  subst hA'
  rw [Go.WideShapes.add_plain, ← Nat.add_assoc]
  obtain ⟨c1, c2, c3⟩ := hc i hi
  rcases hr with ⟨rfl, rfl⟩ | ⟨rfl, rfl⟩ | ⟨rfl, rfl⟩
  · exact c1
  · exact c2
  · exact c3

theorem ent_info : (Try.prog.info? 63).map (fun i => (i.zero, i.size, i.bytes)) = some (some (.agg #[.int .i64 0, .int .i64 0, .string ⟨#[]⟩]), 3, 32) := by kernel_rfl

/-- append(s, x...) of entries onto a row of the call's own -/
theorem wpList_pushe {ops : Array Oper} {rest : List Oper} {o : Oper} {a : Act} {Q : Exit → Act → World → Prop} {wr : World} (a0 : World) (hgd : o.guard = none) (s x : Operand) (t : TypeId)
    (ho : o.op = .call { callee := .builtin .append, args := #[s, x], argTypes := #[t, t] }) (ht : Try.prog.underlying t = some (.slice 63))
    (v : Value) (n : Nat) (xs : List Ent) (hs : a.eval s = v) (hown : wr.ownsRow a0.heap.size 63 3 v n (entV xs)) (hw : From a0 wr) (v2 : Value) (news : List Ent) (hx : a.eval x = v2) (hr : Ents wr v2 news)
    (hroom : n + news.length ≤ 1000000000000)
    (h : ∀ v' w', w'.ownsRow a0.heap.size 63 3 v' (n + news.length) (entV (xs ++ news)) → From a0 w' → wpList Try.prog ops Q rest (a.put o.dst v') w') : wpList Try.prog ops Q (o :: rest) a wr := by
  obtain ⟨i0, hi0, hz0, hz1, hz2⟩ := info_parts ent_info
  have hr0 := hr
  obtain ⟨A, cap, rfl, hc1, hc2, hc3, hp⟩ := hr
  cases A with
  | none =>
    have h0 := hc3 rfl
    subst h0
    have hnn : news = [] := List.eq_nil_of_length_eq_zero (by omega)
    subst hnn
    refine wpList_append_own_none (P := Try.prog) hgd s x t ho a0.heap.size 63 i0 3 ht hi0 v n (entV xs) hs hown hx (h v wr ?_ hw)
    simpa using hown
  | some ad =>
    refine wpList_append_own (P := Try.prog) _ hgd s x t ho a0.heap.size 63 i0 _ 3 32 ht hi0 hz0 hz1 hz2 rfl (by decide) v n (entV xs) hs hown ad news.length cap (entV news) hx (entV_length news) (hr0.cellV rfl) (entV_one news) (by unfold maxLen; omega) (by omega) hw.size ?_
    intro v' w' hown' hg _
    rw [← entV_append] at hown'
    exact h v' w' hown' (hw.grew hg (fun k hk => (hown.lt k hk).1))

set_option maxRecDepth 100000 in
set_option maxHeartbeats 1000000 in
/-- slices.Grow(nil, n) -/
theorem grow_any (n : Nat) (w : World) (hn : n ≤ 1000000000000) :
    Calls Try.prog 48 #[.slice none 0 0, .int .i64 n] w fun e w' => ∃ v', e = .returned v' ∧ w'.ownsRow w.heap.size 63 3 v' 0 (entV []) ∧ From w w' := by
  obtain ⟨i0, hi0, hz0, hz1, hz2⟩ := info_parts ent_info
  by_cases h0 : 0 < n
  · have happ := Lib.run_append_nil_zeros (P := Try.prog) w 23 3 23 63 i0 _ .i64 .i64 Try.underlying23 Try.underlying3 hi0 hz0 n h0 (by omega) (by omega) (by rw [hz2]; omega)
    generalize hcap : grownCap w n 0 63 = cap2 at happ
    have hcapge : n ≤ cap2 := by rw [← hcap]; exact grownCap_ge w _ 0 _
    have hcaple : cap2 ≤ maxLen := by rw [← hcap]; exact grownCap_le_maxLen w _ 0 _ (by unfold maxLen; omega)
    generalize hZ : (Builtin.zeroCells (Value.agg #[.int .i64 0, .int .i64 0, .string ⟨#[]⟩]).cells n ++ Builtin.zeroCells (Value.agg #[.int .i64 0, .int .i64 0, .string ⟨#[]⟩]).cells (cap2 - n)) = Z at happ
    have hZs : Z.size = cap2 * 3 := by rw [← hZ]; simp [size_zeroCells, Value.cells]; omega
    clear hcap hZ
    have hd1 : decide ((0 : Int) < (n : Int)) = true := by simp; omega
    have hc9 : (0 : Int) ≤ (cap2 : Int) := by omega
    have HZ := Lib.hid hZs
    have HC := Lib.hid hcaple
    clear hZs hcaple
    go_enter Try.func48, Try.ntmps48
    go_wp2_with (at_builtin; refine Lib.wpList_append_run _ rfl _ _ _ _ rfl _ _ rfl rfl _ _ happ ?_)
    go_ret
    refine ⟨_, rfl, ⟨by simp [entV], .inr ⟨w.heap.size, cap2, Z, rfl, Nat.le_refl _, ?_, by omega, HC.out, HZ.out, by simp [entV]⟩⟩, ?_⟩
    · exact heap_alloc_new w.drew _
    · exact From.rfl_.d1.new _
  · obtain rfl : n = 0 := by omega
    have hd1 : decide ((0 : Int) < ((0 : Nat) : Int)) = false := by simp
    go_enter Try.func48, Try.ntmps48
    go_wp2
    go_ret
    exact ⟨_, rfl, World.ownsRow_nil _ _ _ _, From.rfl_⟩

def upto2 (xs ys : List Ent) : Nat → List Ent | 0 => [] | 1 => xs | _ => xs ++ ys
set_option maxRecDepth 100000 in
set_option maxHeartbeats 1000000 in
/-- slices.Concat(a, b) -/
theorem concat_any (g : Nat) (v1 v2 : Value) (xs ys : List Ent) (w : World) (hg : g < w.heap.size) (c0 : w.cell? ⟨g, 0, none⟩ = some v1) (c1 : w.cell? ⟨g, 1, none⟩ = some v2) (h1 : Ents w v1 xs) (h2 : Ents w v2 ys) (hl1 : xs.length ≤ 400000000000) (hl2 : ys.length ≤ 400000000000) :
    Calls Try.prog 47 #[.slice (some ⟨g, 0, none⟩) 2 2] w fun e w' => ∃ v', e = .returned v' ∧ w'.ownsRow w.heap.size 63 3 v' (xs.length + ys.length) (entV (xs ++ ys)) ∧ From w w' := by
  have d0 : ∀ w', From w w' → w'.cell? ⟨g, 0, none⟩ = some v1 := fun w' h => (h.cells g _ hg).trans c0
  have d1 : ∀ w', From w w' → w'.cell? ⟨g, 1, none⟩ = some v2 := fun w' h => (h.cells g _ hg).trans c1
  have H1 := Lib.hid h1
  have H2 := Lib.hid h2
  obtain ⟨A, cap, rfl, -⟩ := h1
  obtain ⟨B, cap2, rfl, -⟩ := h2
  have hgr := fun n (hn : n ≤ 1000000000000) w => grow_any n w hn
  have HG := Lib.hid hgr
  clear hgr c0 c1 hg
  have hww : From w w := From.rfl_
  go_enter Try.func47, Try.ntmps47
  go_wp2
  go_loopw [3, 11] (fun s i wr => ∃ j : Nat, j ≤ 2 ∧ i = .int .i64 j ∧ s = .int .i64 ((upto2 xs ys j).length : Nat) ∧ w = wr) (fun _ i _ => 2 - (intOf i).toNat)
  case atStart => exact ⟨0, by omega, rfl, by simp [upto2], rfl⟩
  case round =>
    obtain ⟨j, hj, rfl, rfl, rfl⟩ := hrel
    rcases (show j = 0 ∨ j = 1 ∨ j = 2 by omega) with rfl | rfl | rfl
    · have hd : decide ((xs.length : Int) < 0) = false := by simp
      simp only [upto2, List.length_nil]
      go_wp2
      go_roundw
      case rel => exact ⟨1, by omega, by go_num, by simp only [upto2], trivial⟩
      case measure => simp [intOf]
    · have hd : decide (((xs.length : Int) + (ys.length : Int)) < 0) = false := by simp; omega
      simp only [upto2]
      go_wp2
      go_roundw
      case rel => exact ⟨2, by omega, by go_num, by simp only [upto2, List.length_append]; go_num, trivial⟩
      case measure => simp [intOf]
    · simp only [upto2, List.length_append]
      obtain ⟨N, hN⟩ : ∃ N, N = xs.length + ys.length := ⟨_, rfl⟩
      rw [← hN]
      have HN := Lib.hid hN
      have hN9 : N ≤ 1000000000000 := by omega
      clear hN
      go_wp2_with (go_at_call 48; (with_reducible refine (HG.out N hN9 _).mono ?_); rintro e w1 ⟨v1, rfl, hown1, hw1⟩)
      go_loopw [6, 27] (fun v i wr => ∃ j : Nat, j ≤ 2 ∧ i = .int .i64 j ∧ wr.ownsRow w.heap.size 63 3 v (upto2 xs ys j).length (entV (upto2 xs ys j)) ∧ From w wr) (fun _ i _ => 2 - (intOf i).toNat)
      case atStart => exact ⟨0, by omega, rfl, hown1, hw1⟩
      case round =>
        clear hown1 hw1
        obtain ⟨j, hj, rfl, hown, hw⟩ := hrel
        rcases (show j = 0 ∨ j = 1 ∨ j = 2 by omega) with rfl | rfl | rfl
        · simp only [upto2] at hown
          have HO := Lib.hid hown
          clear hown
          go_wp2_with (at_builtin; refine wpList_pushe w rfl (.tmp 31) (.tmp 32) 23 rfl Try.underlying23 _ _ [] rfl HO.out hw _ xs rfl (H1.out.from_ hw) (by simp only [List.length_nil]; omega) ?_; intro v4 w4 hown4 hw4)
          go_roundw
          case rel => exact ⟨1, by omega, by go_num, by simpa [upto2] using hown4, hw4⟩
          case measure => simp [intOf]
        · simp only [upto2] at hown
          have HO := Lib.hid hown
          clear hown
          go_wp2_with (at_builtin; refine wpList_pushe w rfl (.tmp 31) (.tmp 32) 23 rfl Try.underlying23 _ _ xs rfl HO.out hw _ ys rfl (H2.out.from_ hw) (by omega) ?_; intro v4 w4 hown4 hw4)
          go_roundw
          case rel => exact ⟨2, by omega, by go_num, by simpa [upto2] using hown4, hw4⟩
          case measure => simp [intOf]
        · simp only [upto2, List.length_append] at hown
          have HO := Lib.hid hown
          clear hown
          go_wp2
          go_ret
          exact ⟨_, rfl, HO.out, hw⟩
end Go.Proofs.Ytnnknoohhoifbaa
