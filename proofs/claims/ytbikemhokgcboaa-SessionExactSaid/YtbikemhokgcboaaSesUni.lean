/- session: contracts for valid and invalid lists alike. -/
import Derived.Test.YtbikemhokgcboaaSesArgH
import Derived.Test.YtbikemhokgcboaaSesRefOpen
import Derived.Test.YtbikemhokgcboaaSesArg2
import Derived.Test.YtbikemhokgcboaaSesOnceM
namespace Go.Proofs.Ytbikemhokgcboaa
open Go.RowKit
open Go.ChangeShapes Go.WideShapes Go.ChangeAt
theorem SesUni_s3 : (Try.prog.underlying 3).isSome = true := by kernel_rfl
theorem SesUni_i65 : Try.prog.underlying 65 = some (.int .u64) := by kernel_rfl
theorem SesUni_s65 : (Try.prog.underlying 65).isSome = true := by kernel_rfl
theorem SesUni_i3 : Try.prog.underlying 3 = some (.int .i64) := by kernel_rfl
theorem SesUni_f25_0 : fieldQ Try.prog 25 0 = some 0 := by kernel_rfl
theorem SesUni_g22 : aggQ Try.prog 22 = some false := by kernel_rfl
theorem SesUni_l22 : (elemQ Try.prog 22).isSome = true := by kernel_rfl
theorem SesUni_e22 : elemQ Try.prog 22 = some (60, 6) := by kernel_rfl
theorem SesUni_f60_2 : fieldQ Try.prog 60 2 = some 2 := by kernel_rfl
theorem SesUni_f31_2 : fieldQ Try.prog 31 2 = some 2 := by kernel_rfl
theorem SesUni_g29 : aggQ Try.prog 29 = some false := by kernel_rfl
theorem SesUni_l29 : (elemQ Try.prog 29).isSome = true := by kernel_rfl
theorem SesUni_f25_1 : fieldQ Try.prog 25 1 = some 1 := by kernel_rfl
theorem SesUni_g23 : aggQ Try.prog 23 = some false := by kernel_rfl
theorem SesUni_l23 : (elemQ Try.prog 23).isSome = true := by kernel_rfl
theorem SesUni_e23 : elemQ Try.prog 23 = some (33, 7) := by kernel_rfl
theorem SesUni_f33_4 : fieldQ Try.prog 33 4 = some 4 := by kernel_rfl
def fm (b : Bool) : Int := match b with | true => 0 | false => 1
def Uni (b : Bool) (D : List Ses → Int → Prop) (K : List Ses) (err : Int) : Prop := match b with | true => D K err | false => K = [] ∧ err = 1
theorem uni_t {b : Bool} {D : List Ses → Int → Prop} {K : List Ses} {err : Int} (hb : b = true) (h : D K err) : Uni b D K err := by subst hb; exact h
theorem uni_f {b : Bool} {D : List Ses → Int → Prop} (hb : b = false) : Uni b D [] 1 := by subst hb; exact ⟨rfl, rfl⟩
def Same (K L : List Ses) : Prop := K.length = L.length ∧ ∀ i (h1 : i < K.length) (h2 : i < L.length), norm K[i] = norm L[i] ∧ K[i].hl = L[i].hl
theorem Same.symm {K L : List Ses} (h : Same K L) : Same L K := ⟨h.1.symm, fun i h1 h2 => ⟨(h.2 i h2 h1).1.symm, (h.2 i h2 h1).2.symm⟩⟩
theorem norm_vS {x y : Ses} (h : norm x = norm y) (hl : x.hl = y.hl) : vS x = vS y ∧ x.c = y.c ∧ x.s = y.s ∧ tellS x = tellS y := by
  obtain ⟨c, s, e, n, H, l, q, u⟩ := x
  obtain ⟨c2, s2, e2, n2, H2, l2, q2, u2⟩ := y
  simp only [norm, Ses.mk.injEq, true_and, and_true] at h hl
  obtain ⟨rfl, rfl, rfl, rfl, rfl⟩ := h
  subst hl
  exact ⟨rfl, rfl, rfl, rfl⟩
theorem Same.val {K L : List Ses} (h : Same K L) (hv : ValidL L) : ValidL K := by
  have hn := h.1
  refine ⟨by rw [hn]; exact hv.1, fun i hi => ?_⟩
  have hi2 : i < L.length := by omega
  have h1 := norm_vS (h.2 i hi hi2).1 (h.2 i hi hi2).2
  refine ⟨by rw [h1.1]; exact (hv.2 i hi2).1, fun h0 => ?_⟩
  have h2 := norm_vS (h.2 (i - 1) (by omega) (by omega)).1 (h.2 (i - 1) (by omega) (by omega)).2
  rw [h1.2.1, h2.2.1]
  exact (hv.2 i hi2).2 h0
theorem Same.iff {K L : List Ses} (h : Same K L) : ValidL K ↔ ValidL L := ⟨h.symm.val, h.val⟩
theorem Same.map {K L : List Ses} (h : Same K L) : K.map norm = L.map norm := by
  apply List.ext_getElem (by rw [List.length_map, List.length_map, h.1])
  intro i a b
  rw [List.length_map] at a b
  rw [List.getElem_map, List.getElem_map]
  exact (h.2 i a b).1
theorem Same.none {K L : List Ses} (h : Same K L) {cl : Int} (hn : ∀ j (h : j < K.length), K[j].c ≠ cl) : ∀ j (h : j < L.length), L[j].c ≠ cl := fun j hj => by
  have hn2 := h.1
  have h2 := h.2 j (by omega) hj
  rw [← (norm_vS h2.1 h2.2).2.1]
  exact hn j (by omega)
theorem same_done {K L : List Ses} (h : Same K L) {cl sq e n idx err : Int} {hl : Nat} {X : List Ses} (hd : DoneGot K cl sq e n hl idx X err) : DoneGot L cl sq e n hl idx X err := by
  have hn := h.1
  rcases hd with a | ⟨a, b, c⟩ | ⟨i, hi, a, b, c, d⟩
  · exact .inl a
  · exact .inr (.inl ⟨a, h.none b, c⟩)
  · exact .inr (.inr ⟨i, by omega, a, by rw [← (norm_vS (h.2 i hi (by omega)).1 (h.2 i hi (by omega)).2).2.1]; exact b, by rw [← h.map]; exact c, d⟩)
theorem same_close {K L : List Ses} (h : Same K L) {cl err : Int} {X : List Ses} (hd : CloseGot K cl X err) : CloseGot L cl X err := by
  have hn := h.1
  rcases hd with ⟨b, c⟩ | ⟨i, hi, b, c, d⟩
  · exact .inl ⟨h.none b, c⟩
  · exact .inr ⟨i, by omega, by rw [← (norm_vS (h.2 i hi (by omega)).1 (h.2 i hi (by omega)).2).2.1]; exact b, by rw [← h.map]; exact c, d⟩
theorem same_open {K L : List Ses} (h : Same K L) {t err : Int} {X : List Ses} (hd : OpenGot K t X err) : OpenGot L t X err := by
  rcases hd with ⟨a, b⟩ | ⟨a, b, M, i, c, d⟩
  · exact .inl ⟨fun hm => a ⟨hm.1, h.symm.none hm.2⟩, b⟩
  · exact .inr ⟨⟨a.1, h.none a.2⟩, b, M, i, by rw [← h.map]; exact c, d⟩
theorem same_beg {K L : List Ses} (h : Same K L) {cl sq : Int} {v : Value} (hd : BegGot tellS K cl sq v) : BegGot tellS L cl sq v := by
  have hn := h.1
  rcases hd with a | ⟨a, b, c⟩ | ⟨i, hi, a, b, c⟩
  · exact .inl a
  · exact .inr (.inl ⟨a, h.none b, c⟩)
  · obtain ⟨h1, h2, h3, h4⟩ := norm_vS (h.2 i hi (by omega)).1 (h.2 i hi (by omega)).2
    exact .inr (.inr ⟨i, by omega, a, by rw [← h2]; exact b, by rw [← h3, ← h4]; exact c⟩)
theorem norm_set_id {L : List Ses} {i : Nat} {x : Ses} (hx : norm x = x) : ((L.map norm).set i x).map norm = (L.map norm).set i x := by
  rw [List.map_set, List.map_map, hx]
  rfl
theorem done_norm {L K : List Ses} {cl sq e n idx err : Int} {hl : Nat} (h : DoneGot L cl sq e n hl idx K err) : K.map norm = K := by
  rcases h with ⟨_, rfl, _⟩ | ⟨_, _, rfl, _⟩ | ⟨i, hi, _, _, rfl, _⟩
  · rfl
  · rfl
  · exact norm_set_id rfl
theorem open_norm {L K : List Ses} {t err : Int} (h : OpenGot L t K err) : K.map norm = K := by
  rcases h with ⟨_, rfl, _⟩ | ⟨_, _, M, i, hE, hA, rfl⟩
  · rfl
  · rw [List.map_append, List.map_append, List.map_take, List.map_drop, evict_norm hE]
    rfl
/-- what the tail of a round needs of the two results -/
def Fin (KW KX : List Ses) (er ex : Int) : Prop := ex = er ∧ KX = KW.map norm ∧ KX.length ≤ 500 ∧ KX.map norm = KX ∧ (∀ i (h : i < KW.length), KW[i].hl = 0) ∧ KX.length = KW.length
theorem fin_nil : Fin [] [] 1 1 := ⟨rfl, rfl, by simp, rfl, fun i h => absurd h (by simp), rfl⟩
theorem done_fin {b : Bool} {L K4 : List Ses} (hb : b = true ↔ ValidL L) (hs : Same K4 L) {cl sq e n idx er ex : Int} {hl : Nat} {KW KX : List Ses} (hW : Uni b (DoneGot L cl sq e n hl idx) KW er) (hX : Uni b (DoneGot K4 cl sq e n hl idx) KX ex) : Fin KW KX er ex := by
  cases b with
  | false =>
    obtain ⟨rfl, rfl⟩ := hW
    obtain ⟨rfl, rfl⟩ := hX
    exact fin_nil
  | true =>
    have hv := hb.1 rfl
    obtain ⟨rfl, rfl⟩ := done_one (valid_rise hv) hW (same_done hs hX)
    have h8 := hv.1
    have h9 := done_hl hW
    exact ⟨rfl, (done_norm hW).symm, by omega, done_norm hW, h9.1, rfl⟩
theorem done_finW {b : Bool} {L : List Ses} (hb : b = true ↔ ValidL L) {cl sq e n idx er : Int} {hl : Nat} {KW : List Ses} (hW : Uni b (DoneGot L cl sq e n hl idx) KW er) : Fin KW (KW.map norm) er er := by
  cases b with
  | false =>
    obtain ⟨rfl, rfl⟩ := hW
    exact fin_nil
  | true =>
    have hv := hb.1 rfl
    have h8 := hv.1
    have h9 := done_hl hW
    rw [done_norm hW]
    exact ⟨rfl, (done_norm hW).symm, by omega, done_norm hW, h9.1, rfl⟩
theorem open_fin {b : Bool} {L K4 : List Ses} (hb : b = true ↔ ValidL L) (hs : Same K4 L) {t er ex : Int} {KW KX : List Ses} (hW : Uni b (OpenGot L t) KW er) (hX : Uni b (OpenGot K4 t) KX ex) : Fin KW KX er ex := by
  cases b with
  | false =>
    obtain ⟨rfl, rfl⟩ := hW
    obtain ⟨rfl, rfl⟩ := hX
    exact fin_nil
  | true =>
    have hv := hb.1 rfl
    obtain ⟨rfl, rfl⟩ := open_one hW (same_open hs hX)
    have h8 := hv.1
    have h9 := open_hl hW
    exact ⟨rfl, (open_norm hW).symm, by omega, open_norm hW, h9.1, rfl⟩
def CloseW (L : List Ses) (cl : Int) (K : List Ses) (err : Int) : Prop := CloseGot L cl (K.map norm) err ∧ ∀ i (h : i < K.length), K[i].hl = 0
theorem close_fin {b : Bool} {L K4 : List Ses} (hb : b = true ↔ ValidL L) (hs : Same K4 L) {cl er ex : Int} {KW KX : List Ses} (hW : Uni b (CloseW L cl) KW er) (hX : Uni b (CloseGot K4 cl) KX ex) : Fin KW KX er ex := by
  cases b with
  | false =>
    obtain ⟨rfl, rfl⟩ := hW
    obtain ⟨rfl, rfl⟩ := hX
    exact fin_nil
  | true =>
    have hv := hb.1 rfl
    obtain ⟨h1, rfl⟩ := close_one (valid_rise hv) hW.1 (same_close hs hX)
    have h8 := hv.1
    have h9 := close_hl hW.1
    subst h1
    exact ⟨rfl, rfl, by omega, h9.2.2, hW.2, List.length_map _⟩
def BegU (b : Bool) (T : Ses → Value) (L : List Ses) (cl sq : Int) (v : Value) : Prop := match b with | true => BegGot T L cl sq v | false => v = rV 0 0 none 0 0 false 1
theorem begU_t {b : Bool} {T : Ses → Value} {L : List Ses} {cl sq : Int} {v : Value} (hb : b = true) (h : BegGot T L cl sq v) : BegU b T L cl sq v := by subst hb; exact h
theorem begU_f {b : Bool} {T : Ses → Value} {L : List Ses} {cl sq : Int} (hb : b = false) : BegU b T L cl sq (rV 0 0 none 0 0 false 1) := by subst hb; exact rfl
theorem rV_inj {e n e2 n2 : Int} {H H2 : Option Addr} {hl hc hl2 hc2 : Nat} {b b2 : Bool} {r r2 : Int} (h : rV e n H hl hc b r = rV e2 n2 H2 hl2 hc2 b2 r2) : e = e2 ∧ n = n2 ∧ b = b2 ∧ r = r2 ∧ hl = hl2 := by
  simp only [rV, Value.tuple.injEq, Array.mk.injEq, List.cons.injEq, Value.agg.injEq, Value.int.injEq, Value.slice.injEq, Value.bool.injEq, true_and, and_true] at h
  obtain ⟨⟨rfl, rfl, _, rfl, _⟩, rfl, rfl⟩ := h
  exact ⟨rfl, rfl, rfl, rfl, rfl⟩
theorem begU_one {b : Bool} {L K4 : List Ses} (hb : b = true ↔ ValidL L) (hs : Same K4 L) {cl sq e n r : Int} {H : Option Addr} {hl hc : Nat} {x : Bool} {v : Value} (hW : BegU b tellR L cl sq (rV e n H hl hc x r)) (hX : BegU b tellS K4 cl sq v) : v = rV e n none 0 0 x r := by
  cases b with
  | false =>
    obtain ⟨rfl, rfl, rfl, rfl, _⟩ := rV_inj hW
    exact hX
  | true =>
    have hv := hb.1 rfl
    have hX2 := same_beg hs hX
    obtain ⟨e2, n2, x2, r2, rfl⟩ := beg_lit hX2
    obtain ⟨rfl, rfl, rfl, rfl, _⟩ := both_eq hv hX2 hW
    rfl
theorem begU_hl {b : Bool} {L : List Ses} (hb : b = true ↔ ValidL L) {cl sq e n r : Int} {H : Option Addr} {hl hc : Nat} {x : Bool} (hW : BegU b tellR L cl sq (rV e n H hl hc x r)) : hl = 0 := by
  cases b with
  | false => exact (rV_inj hW).2.2.2.2
  | true =>
    have hv := hb.1 rfl
    rcases hW with ⟨_, h⟩ | ⟨_, _, h⟩ | ⟨i, hi, _, _, ⟨_, h⟩ | ⟨_, h⟩ | ⟨_, h⟩⟩
    · exact (rV_inj h).2.2.2.2
    · exact (rV_inj h).2.2.2.2
    · exact (rV_inj h).2.2.2.2
    · exact (rV_inj h).2.2.2.2
    · exact (rV_inj h).2.2.2.2.trans (valid_hl hv i hi)
def SAt (w : World) (A : Option Addr) (c : Nat) (L : List Ses) (HL : List (List HitX)) : Prop := RowS w A L ∧ HitsOf w L HL ∧ (A = none → c = 0) ∧ L.length ≤ c ∧ c ≤ 9223372036854775807 ∧ L.length ≤ 500
theorem SAt.from_ {w w' : World} {A : Option Addr} {c : Nat} {L : List Ses} {HL : List (List HitX)} (h : SAt w A c L HL) (hF : From w w') : SAt w' A c L HL := ⟨h.1.from_ hF, h.2.1.from_ hF, h.2.2⟩
theorem sat_copy {w w0 : World} {base b2 c : Nat} {A : Option Addr} {K L : List Ses} {HL : List (List HitX)} (ho : w.ownsRow base 60 6 (.slice A K.length c) K.length (K.flatMap sesV)) (hcp : CopyOf w b2 K L HL) (hKL : K.length = L.length) (hh : HitsOf w0 L HL) (h5 : L.length ≤ 500) : SAt w A c K HL ∧ K.map norm = L.map norm ∧ Same K L := by
  obtain ⟨h1, h2⟩ := hcp.hits hKL hh
  refine ⟨⟨(rowS_own ho).2, h1, (own_capM ho).2, own_cap ho, (own_capM ho).1, by omega⟩, h2, hKL, fun i a b => ⟨(hcp i a b (by have := hh.1; omega)).1, ?_⟩⟩
  have := (hcp i a b (by have := hh.1; omega)).2.1
  rw [this, (hh.2 i b (by have := hh.1; omega)).1]
theorem no_hits {w : World} {K : List Ses} (h : ∀ i (h : i < K.length), K[i].hl = 0) : HitsOf w K (K.map fun _ => []) := ⟨(List.length_map _).symm, fun i h1 h2 => by
  rw [List.getElem_map]
  exact ⟨h i h1, by simp, fun h0 => absurd h0 (by simp)⟩⟩
theorem own_small {w0 w : World} {base e s n c m : Nat} {A : Option Addr} {xs : List Value} (h : w.ownsRow base e s (.slice A n c) m xs) (hb : w0.heap.size ≤ base) (hF : From w0 w) : ∃ base', w0.heap.size ≤ base' ∧ base' ≤ w.heap.size ∧ w.ownsRow base' e s (.slice A n c) m xs := by
  rcases h.2 with h0 | ⟨g, cap, cur, hv, hg, hh, r⟩
  · exact ⟨w0.heap.size, Nat.le_refl _, hF.size, h.1, .inl h0⟩
  · have h3 : g < w.heap.size := by
      have hbk : Blk w g e cur := hh
      exact hbk.lt
    exact ⟨base, hb, by omega, h⟩
theorem norm_none {K : List Ses} (h : K.map norm = K) : ∀ i (h : i < K.length), K[i].H = none ∧ K[i].hl = 0 ∧ K[i].hc = 0 := fun i hi => by
  have h1 : norm K[i] = K[i] := by
    have := congrArg (fun l => l[i]?) h
    simpa [hi] using this
  rw [← h1]
  exact ⟨rfl, rfl, rfl⟩
theorem may_u (A : Option Addr) (c : Nat) (L : List Ses) (w : World) (hr : RowS w A L) (hl : L.length ≤ 1000) : Rt Try.prog 11 [.slice A L.length c] w fun v w' => (∃ b, v = .bool b ∧ (b = true ↔ ValidL L)) ∧ From w w' := by
  by_cases hv : ValidL L
  · exact (may_yes A c L w hr (by omega) hv).mono fun v w' h => ⟨⟨true, h.1, fun _ => hv, fun _ => rfl⟩, h.2⟩
  · exact (may_no A c L w hr (by omega) hv).mono fun v w' h => ⟨⟨false, h.1, fun h => (by cases h), fun h => absurd h hv⟩, h.2⟩
theorem nv {b : Bool} {L : List Ses} (hb : b = true ↔ ValidL L) (h : b = false) : ¬ ValidL L := fun hv => by rw [hb.2 hv] at h; cases h
theorem check_u (A : Option Addr) (c : Nat) (L : List Ses) (w : World) (hr : RowS w A L) (hl : L.length ≤ 1000) (b : Bool) (hb : b = true ↔ ValidL L) : Rt Try.prog 13 [.slice A L.length c] w fun v w' => v = .int .i64 (fm b) ∧ From w w' := by
  cases b with
  | true => exact check_ok A c L w hr (by omega) (hb.1 rfl)
  | false => exact check_no A c L w hr (by omega) (nv hb rfl)
theorem done_u (A : Option Addr) (c : Nat) (L : List Ses) (w : World) (hr : RowS w A L) (hl : L.length ≤ 1000) (hn0 : A = none → c = 0) (cl sq e n idx : Int) (H : Option Addr) (hl0 hc0 : Nat) (b : Bool) (hb : b = true ↔ ValidL L) : Rt Try.prog 20 [.slice A L.length c, .int .i64 cl, .int .i64 sq, .agg #[.int .i64 e, .int .i64 n, .slice H hl0 hc0], .int .i64 idx] w fun v w' => GotP w (Uni b (DoneGot L cl sq e n hl0 idx)) v w' := by
  cases b with
  | true => exact done_p A c L w hr hl hn0 cl sq e n idx H hl0 hc0 (hb.1 rfl)
  | false => exact (done_no A c L w hr (by omega) cl sq e n idx H hl0 hc0 (nv hb rfl)).mono fun v w' h => (by rw [h.1]; exact gotP_nil _ _ _ _ ⟨rfl, rfl⟩ h.2)
theorem close_u (A : Option Addr) (c : Nat) (L : List Ses) (w : World) (hr : RowS w A L) (hl : L.length ≤ 1000) (hn0 : A = none → c = 0) (cl : Int) (b : Bool) (hb : b = true ↔ ValidL L) : Rt Try.prog 23 [.slice A L.length c, .int .i64 cl] w fun v w' => GotP w (Uni b (CloseGot L cl)) v w' := by
  cases b with
  | true => exact close_p A c L w hr hl hn0 (hb.1 rfl) cl
  | false => exact (close_no A c L w hr (by omega) cl (nv hb rfl)).mono fun v w' h => (by rw [h.1]; exact gotP_nil _ _ _ _ ⟨rfl, rfl⟩ h.2)
theorem open_u (A : Option Addr) (c : Nat) (L : List Ses) (w : World) (hr : RowS w A L) (hl : L.length ≤ 1000) (hn0 : A = none → c = 0) (t : Int) (b : Bool) (hb : b = true ↔ ValidL L) : Rt Try.prog 26 [.slice A L.length c, .int .i64 t] w fun v w' => GotP w (Uni b (OpenGot L t)) v w' := by
  cases b with
  | true => exact open_p A c L w hr hl hn0 t (hb.1 rfl)
  | false => exact (open_no A c L w hr (by omega) t (nv hb rfl)).mono fun v w' h => (by rw [h.1]; exact gotP_nil _ _ _ _ ⟨rfl, rfl⟩ h.2)
theorem begin_u (A : Option Addr) (c : Nat) (L : List Ses) (w : World) (hr : RowS w A L) (hl : L.length ≤ 1000) (cl sq : Int) (b : Bool) {L0 : List Ses} (hb : b = true ↔ ValidL L0) (hs : Same L L0) {e n r : Int} {H : Option Addr} {hl2 hc2 : Nat} {x : Bool} (hW : BegU b tellR L0 cl sq (rV e n H hl2 hc2 x r)) : Rt Try.prog 16 [.slice A L.length c, .int .i64 cl, .int .i64 sq] w fun v w' => v = .tuple #[.agg #[.int .i64 e, .int .i64 n, .slice none 0 0], .bool x, .int .i64 r] ∧ From w w' := by
  cases b with
  | true => exact (begin_rt A c L w hr (by omega) cl sq (hs.val (hb.1 rfl))).mono fun v w' h => ⟨begU_one hb hs hW h.1, h.2⟩
  | false => exact (begin_bad A c L w hr (by omega) cl sq (fun hv => nv hb rfl (hs.symm.val hv))).mono fun v w' h => ⟨begU_one hb hs hW h.1, h.2⟩
set_option maxRecDepth 100000 in
set_option maxHeartbeats 400000 in
theorem within7 (i : Int) (n : Nat) (w : World) (hn : 0 < n ∧ n ≤ 1000) :
    Rt Try.prog 14 [.int .i64 i, .int .i64 (n : Nat)] w (fun v w' => (∃ m : Nat, m < n ∧ v = .int .i64 (m : Nat)) ∧ w = w') := by
  obtain ⟨a, ha, ha2⟩ : ∃ a : Nat, IntKind.u64.wrap i = (a : Int) ∧ a < 18446744073709551616 := ⟨(IntKind.u64.wrap i).toNat, by rw [IntKind.wrap_u64]; omega, by rw [IntKind.wrap_u64]; omega⟩
  have hm : a % n < n := Nat.mod_lt _ hn.1
  refine enter (n := 11) Try.func14 rfl rfl rfl ?_
  refine cd_seq ?_
  refine cd_region ?_
  refine st_val (ro_assign (v := .int _ _) rfl) ?_
  refine st_nil ?_
  refine nx_then ?_
  refine cd_seq ?_
  refine cd_region ?_
  refine st_val (ro_move (v := .int _ _) rfl) ?_
  refine st_val (ro_conv SesUni_s3 SesUni_i65 rfl) ?_
  refine st_spell (t := 6) (v := .int _ _) (v' := .int .u64 (a : Nat)) rfl (by rw [ha]) ?_
  refine st_val (ro_move (v := .int _ _) rfl) ?_
  refine st_val (ro_conv64 SesUni_s3 SesUni_i65 rfl (by omega)) ?_
  refine st_val (ro_rem rfl rfl (by omega)) ?_
  refine st_spell (t := 9) (v := .int _ _) (v' := .int .u64 ((a % n : Nat) : Int)) rfl (by rw [Int.tmod_eq_emod_of_nonneg (by omega)]; rfl) ?_
  refine st_val (ro_convI SesUni_s65 SesUni_i3 rfl (by omega)) ?_
  refine st_val (ro_assign (v := .int _ _) rfl) ?_
  refine st_nil ?_
  refine nx_then ?_
  refine cd_ret ?_
  refine res1 (v := .int _ _) rfl rfl ?_
  exact ⟨⟨a % n, hm, rfl⟩, rfl⟩
set_option maxRecDepth 100000 in
set_option maxHeartbeats 400000 in
theorem heavy_x (A : Option Addr) (ca : Nat) (L : List Ses) (B : Option Addr) (cb : Nat) (K : List Act) (w : World) (hr : RowS w A L) (hk : RowT w B K) (hL : L.length * 64 ≤ 140737488351232) (hK : K.length * 72 ≤ 140737488351232) (hLh : ∀ i (h : i < L.length), L[i].hl * 24 ≤ 140737488351232) (hKh : ∀ i (h : i < K.length), K[i].hl * 24 ≤ 140737488351232) :
    Rt Try.prog 9 [.agg #[.slice A L.length ca, .slice B K.length cb]] w (fun v w' => (∃ b, v = .bool b ∧ (b = false → L.length ≤ 500 ∧ (∀ i (h : i < L.length), L[i].hl ≤ 500) ∧ K.length ≤ 200 ∧ ∀ i (h : i < K.length), K[i].hl ≤ 500)) ∧ From w w') := by
  refine enter (n := 59) Try.func9 rfl rfl rfl ?_
  refine cd_seq ?_
  refine cd_region ?_
  refine st_box (v := .agg _) rfl ?_
  intro b1 w1 E1 hb1 hk1
  refine st_val (ro_assign (v := .bool _) rfl) ?_
  refine st_nil ?_
  refine nx_then ?_
  refine cd_seq ?_
  refine cd_region ?_
  refine st_val (ro_fieldAddr SesUni_f25_0 rfl) ?_
  refine st_val (ro_load SesUni_g22 rfl (by exact (hk1.from_ From.rfl_).rd 0 rfl)) ?_
  refine st_val (ro_len SesUni_l22 rfl) ?_
  refine st_val (ro_assign (v := .int _ _) rfl) ?_
  refine st_nil ?_
  refine nx_then ?_
  refine cd_seq ?_
  refine cd_seq ?_
  refine cd_region ?_
  refine st_val (ro_assign (v := .int _ _) rfl) ?_
  refine st_nil ?_
  refine nx_then ?_
  refine cd_block ?_
  refine cd_loop (G := Nat × Nat) [9, 10, 11, 12, 13, 14, 15, 16, 17, 18, 19, 20, 21, 22, 23, 24, 25, 26, 27, 28, 29] (fun (n, k) => [(3, .int .i64 (n : Nat)), (4, .int .i64 (k : Nat))]) (fun (n, k) w' => k ≤ L.length ∧ L.length ≤ n ∧ n ≤ 100000000000000000 ∧ (∀ i (h : i < L.length), i < k → L[i].hl ≤ n) ∧ w1 = w') (fun (_, k) => L.length - k) ((L.length, 0)) ⟨rfl, rfl, trivial⟩ ?_ ?_
  · exact ⟨Nat.zero_le _, Nat.le_refl _, by omega, fun i h h0 => absurd h0 (by omega), rfl⟩
  rintro ⟨n4, k4⟩ ρ2 w2 ⟨hkl4, hn4, hm4, hs4, rfl⟩
  refine cd_seq ?_
  refine cd_seq ?_
  refine cd_region ?_
  refine st_val (ro_move (v := .int _ _) rfl) ?_
  refine st_val (ro_fieldAddr SesUni_f25_0 rfl) ?_
  refine st_val (ro_load SesUni_g22 rfl (by exact (hk1.from_ From.rfl_).rd 0 rfl)) ?_
  refine st_val (ro_len SesUni_l22 rfl) ?_
  refine st_val (ro_lss rfl rfl) ?_
  refine st_val (ro_move (v := .bool _) rfl) ?_
  refine st_split (t := 14) rfl (fun Q3 => ?_) (fun Q3 => ?_)
  · (try with_reducible first | replace Q3 := of_decide_eq_true Q3 | replace Q3 := of_decide_eq_false Q3 | replace Q3 := bn_t Q3 | replace Q3 := bn_f Q3)
    (try with_reducible first | replace Q3 := of_decide_eq_true Q3 | replace Q3 := of_decide_eq_false Q3 | replace Q3 := bx_t Q3 | replace Q3 := bx_f Q3 | replace Q3 := be_t Q3 | replace Q3 := be_f Q3)
    refine st_unguard rfl ?_
    refine st_val (ro_move (v := .int _ _) rfl) ?_
    refine st_unguard rfl ?_
    refine st_val (ro_lss rfl rfl) ?_
    refine st_val (ro_pickT (v := .bool _) rfl rfl) ?_
    refine st_nil ?_
    refine nx_then ?_
    refine cd_cond rfl (fun Q4 => ?_) (fun Q4 => ?_)
    · (try with_reducible first | replace Q4 := of_decide_eq_true Q4 | replace Q4 := of_decide_eq_false Q4 | replace Q4 := bn_t Q4 | replace Q4 := bn_f Q4)
      (try with_reducible first | replace Q4 := of_decide_eq_true Q4 | replace Q4 := of_decide_eq_false Q4 | replace Q4 := bx_t Q4 | replace Q4 := bx_f Q4 | replace Q4 := be_t Q4 | replace Q4 := be_f Q4)
      obtain ⟨ba, oa, rfl, hcs⟩ := hr (by omega)
      have hkL : k4 < L.length := by omega
      have hbl := hLh k4 hkL
      refine cd_skip ?_
      refine nx_then ?_
      refine cd_seq ?_
      refine cd_block ?_
      refine cd_region ?_
      refine st_val (ro_move (v := .int _ _) rfl) ?_
      refine st_val (ro_fieldAddr SesUni_f25_0 rfl) ?_
      refine st_val (ro_load SesUni_g22 rfl (by exact (hk1.from_ From.rfl_).rd 0 rfl)) ?_
      refine st_val (ro_move (v := .int _ _) rfl) ?_
      refine st_val (ro_indexAddrN SesUni_e22 rfl rfl (by omega)) ?_
      refine st_val (ro_fieldAddr SesUni_f60_2 rfl) ?_
      refine st_val (ro_fieldAddr SesUni_f31_2 rfl) ?_
      refine st_val (ro_load SesUni_g29 rfl (by exact cellF (From.rfl_.next E1) (hcs k4 (by omega) 4 _ rfl))) ?_
      refine st_val (ro_len SesUni_l29 rfl) ?_
      refine st_val (ro_addN rfl rfl (by omega)) ?_
      refine st_val (ro_assign (v := .int _ _) rfl) ?_
      refine st_nil ?_
      refine nx_block ?_
      refine nx_then ?_
      refine cd_region ?_
      refine st_val (ro_move (v := .int _ _) rfl) ?_
      refine st_val (ro_addN (b := 1) rfl rfl (by omega)) ?_
      refine st_val (ro_assign (v := .int _ _) rfl) ?_
      refine st_nil ?_
      refine nx_cut ((_, k4 + 1)) ⟨(by first | rfl | (refine int_eq ?_; omega)), (by first | rfl | (refine int_eq ?_; omega)), trivial⟩ (by (iterate 47 refine agr_cons rfl ?_); exact agr_rfl) ⟨?_, ?_⟩
      · refine ⟨by omega, by omega, by omega, fun i h h0 => ?_, rfl⟩
        rcases Nat.lt_or_ge i k4 with a | a
        · have := hs4 i h a; omega
        · obtain rfl : i = k4 := by omega
          omega
      · show _ - _ < _ - _; omega
    · (try with_reducible first | replace Q4 := of_decide_eq_true Q4 | replace Q4 := of_decide_eq_false Q4 | replace Q4 := bn_t Q4 | replace Q4 := bn_f Q4)
      (try with_reducible first | replace Q4 := of_decide_eq_true Q4 | replace Q4 := of_decide_eq_false Q4 | replace Q4 := bx_t Q4 | replace Q4 := bx_f Q4 | replace Q4 := be_t Q4 | replace Q4 := be_f Q4)
      refine cd_exit ?_
      refine ex_then ?_
      refine ex_then ?_
      refine ex_block ?_
      refine nx_then ?_
      refine cd_seq ?_
      refine cd_seq ?_
      refine cd_region ?_
      refine st_val (ro_assign (v := .int _ _) rfl) ?_
      refine st_nil ?_
      refine nx_then ?_
      refine cd_block ?_
      refine cd_loop (G := Nat × Nat) [30, 31, 32, 33, 34, 35, 36, 37, 38, 39, 40, 41, 42, 43, 44, 45, 46, 47, 48, 49, 50] (fun (n, k) => [(3, .int .i64 (n : Nat)), (5, .int .i64 (k : Nat))]) (fun (n, k) w' => k ≤ K.length ∧ n4 ≤ n ∧ n ≤ 100000000000000000 ∧ (∀ i (h : i < K.length), i < k → K[i].hl ≤ n) ∧ w1 = w') (fun (_, k) => K.length - k) ((n4, 0)) ⟨rfl, rfl, trivial⟩ ?_ ?_
      · exact ⟨Nat.zero_le _, Nat.le_refl _, by omega, fun i h h0 => absurd h0 (by omega), rfl⟩
      rintro ⟨n5, k5⟩ ρ5 w5 ⟨hkl5, hn5, hm5, hs5, rfl⟩
      refine cd_seq ?_
      refine cd_seq ?_
      refine cd_region ?_
      refine st_val (ro_move (v := .int _ _) rfl) ?_
      refine st_val (ro_fieldAddr SesUni_f25_1 rfl) ?_
      refine st_val (ro_load SesUni_g23 rfl (by exact (hk1.from_ From.rfl_).rd 1 rfl)) ?_
      refine st_val (ro_len SesUni_l23 rfl) ?_
      refine st_val (ro_lss rfl rfl) ?_
      refine st_val (ro_move (v := .bool _) rfl) ?_
      refine st_split (t := 35) rfl (fun Q6 => ?_) (fun Q6 => ?_)
      · (try with_reducible first | replace Q6 := of_decide_eq_true Q6 | replace Q6 := of_decide_eq_false Q6 | replace Q6 := bn_t Q6 | replace Q6 := bn_f Q6)
        (try with_reducible first | replace Q6 := of_decide_eq_true Q6 | replace Q6 := of_decide_eq_false Q6 | replace Q6 := bx_t Q6 | replace Q6 := bx_f Q6 | replace Q6 := be_t Q6 | replace Q6 := be_f Q6)
        refine st_unguard rfl ?_
        refine st_val (ro_move (v := .int _ _) rfl) ?_
        refine st_unguard rfl ?_
        refine st_val (ro_lss rfl rfl) ?_
        refine st_val (ro_pickT (v := .bool _) rfl rfl) ?_
        refine st_nil ?_
        refine nx_then ?_
        refine cd_cond rfl (fun Q7 => ?_) (fun Q7 => ?_)
        · (try with_reducible first | replace Q7 := of_decide_eq_true Q7 | replace Q7 := of_decide_eq_false Q7 | replace Q7 := bn_t Q7 | replace Q7 := bn_f Q7)
          (try with_reducible first | replace Q7 := of_decide_eq_true Q7 | replace Q7 := of_decide_eq_false Q7 | replace Q7 := bx_t Q7 | replace Q7 := bx_f Q7 | replace Q7 := be_t Q7 | replace Q7 := be_f Q7)
          obtain ⟨bb, ob, rfl, hct⟩ := hk (by omega)
          have hkK : k5 < K.length := by omega
          have hbk := hKh k5 hkK
          refine cd_skip ?_
          refine nx_then ?_
          refine cd_seq ?_
          refine cd_block ?_
          refine cd_region ?_
          refine st_val (ro_move (v := .int _ _) rfl) ?_
          refine st_val (ro_fieldAddr SesUni_f25_1 rfl) ?_
          refine st_val (ro_load SesUni_g23 rfl (by exact (hk1.from_ From.rfl_).rd 1 rfl)) ?_
          refine st_val (ro_move (v := .int _ _) rfl) ?_
          refine st_val (ro_indexAddrN SesUni_e23 rfl rfl (by omega)) ?_
          refine st_val (ro_fieldAddr SesUni_f33_4 rfl) ?_
          refine st_val (ro_fieldAddr SesUni_f31_2 rfl) ?_
          refine st_val (ro_load SesUni_g29 rfl (by exact cellF (From.rfl_.next E1) (hct k5 (by omega) 6 _ rfl))) ?_
          refine st_val (ro_len SesUni_l29 rfl) ?_
          refine st_val (ro_addN rfl rfl (by omega)) ?_
          refine st_val (ro_assign (v := .int _ _) rfl) ?_
          refine st_nil ?_
          refine nx_block ?_
          refine nx_then ?_
          refine cd_region ?_
          refine st_val (ro_move (v := .int _ _) rfl) ?_
          refine st_val (ro_addN (b := 1) rfl rfl (by omega)) ?_
          refine st_val (ro_assign (v := .int _ _) rfl) ?_
          refine st_nil ?_
          refine nx_cut ((_, k5 + 1)) ⟨(by first | rfl | (refine int_eq ?_; omega)), (by first | rfl | (refine int_eq ?_; omega)), trivial⟩ (by (iterate 47 refine agr_cons rfl ?_); exact agr_rfl) ⟨?_, ?_⟩
          · refine ⟨by omega, by omega, by omega, fun i h h0 => ?_, rfl⟩
            rcases Nat.lt_or_ge i k5 with a | a
            · have := hs5 i h a; omega
            · obtain rfl : i = k5 := by omega
              omega
          · show _ - _ < _ - _; omega
        · (try with_reducible first | replace Q7 := of_decide_eq_true Q7 | replace Q7 := of_decide_eq_false Q7 | replace Q7 := bn_t Q7 | replace Q7 := bn_f Q7)
          (try with_reducible first | replace Q7 := of_decide_eq_true Q7 | replace Q7 := of_decide_eq_false Q7 | replace Q7 := bx_t Q7 | replace Q7 := bx_f Q7 | replace Q7 := be_t Q7 | replace Q7 := be_f Q7)
          refine cd_exit ?_
          refine ex_then ?_
          refine ex_then ?_
          refine ex_block ?_
          refine nx_then ?_
          refine cd_seq ?_
          refine cd_region ?_
          refine st_val (ro_move (v := .int _ _) rfl) ?_
          refine st_val (ro_gtr rfl rfl) ?_
          refine st_val (ro_move (v := .bool _) rfl) ?_
          refine st_split (t := 53) rfl (fun Q8 => ?_) (fun Q8 => ?_)
          · (try with_reducible first | replace Q8 := of_decide_eq_true Q8 | replace Q8 := of_decide_eq_false Q8 | replace Q8 := bn_t Q8 | replace Q8 := bn_f Q8)
            (try with_reducible first | replace Q8 := of_decide_eq_true Q8 | replace Q8 := of_decide_eq_false Q8 | replace Q8 := bx_t Q8 | replace Q8 := bx_f Q8 | replace Q8 := be_t Q8 | replace Q8 := be_f Q8)
            have hfin : ∀ P : Prop, (true = false) → P := fun _ h => nomatch h
            refine st_gno rfl rfl ?_
            refine st_gno rfl rfl ?_
            refine st_gno rfl rfl ?_
            refine st_gno rfl rfl ?_
            refine st_val (ro_pickT (v := .bool _) rfl rfl) ?_
            refine st_val (ro_assign (v := .bool _) rfl) ?_
            refine st_nil ?_
            refine nx_then ?_
            refine cd_ret ?_
            refine res1 (v := .bool _) rfl rfl ?_
            first
              | (have hx := hfin; exact ⟨⟨true, rfl, hx _⟩, (From.rfl_.next E1)⟩)
              | (refine ⟨⟨_, rfl, fun hb => ?_⟩, (From.rfl_.next E1)⟩
                 have hb2 := of_decide_eq_false hb
                 refine ⟨by omega, fun i h => ?_, by omega, fun i h => ?_⟩
                 · have := hs4 i h (by omega); omega
                 · have := hs5 i h (by omega); omega)
          · (try with_reducible first | replace Q8 := of_decide_eq_true Q8 | replace Q8 := of_decide_eq_false Q8 | replace Q8 := bn_t Q8 | replace Q8 := bn_f Q8)
            (try with_reducible first | replace Q8 := of_decide_eq_true Q8 | replace Q8 := of_decide_eq_false Q8 | replace Q8 := bx_t Q8 | replace Q8 := bx_f Q8 | replace Q8 := be_t Q8 | replace Q8 := be_f Q8)
            refine st_unguard rfl ?_
            refine st_val (ro_fieldAddr SesUni_f25_1 rfl) ?_
            refine st_unguard rfl ?_
            refine st_val (ro_load SesUni_g23 rfl (by exact (hk1.from_ From.rfl_).rd 1 rfl)) ?_
            refine st_unguard rfl ?_
            refine st_val (ro_len SesUni_l23 rfl) ?_
            refine st_unguard rfl ?_
            refine st_val (ro_gtr rfl rfl) ?_
            refine st_val (ro_pickF (v := .bool _) rfl rfl) ?_
            refine st_val (ro_assign (v := .bool _) rfl) ?_
            refine st_nil ?_
            refine nx_then ?_
            refine cd_ret ?_
            refine res1 (v := .bool _) rfl rfl ?_
            first
              | (have hx := hfin; exact ⟨⟨true, rfl, hx _⟩, (From.rfl_.next E1)⟩)
              | (refine ⟨⟨_, rfl, fun hb => ?_⟩, (From.rfl_.next E1)⟩
                 have hb2 := of_decide_eq_false hb
                 refine ⟨by omega, fun i h => ?_, by omega, fun i h => ?_⟩
                 · have := hs4 i h (by omega); omega
                 · have := hs5 i h (by omega); omega)
      · (try with_reducible first | replace Q6 := of_decide_eq_true Q6 | replace Q6 := of_decide_eq_false Q6 | replace Q6 := bn_t Q6 | replace Q6 := bn_f Q6)
        (try with_reducible first | replace Q6 := of_decide_eq_true Q6 | replace Q6 := of_decide_eq_false Q6 | replace Q6 := bx_t Q6 | replace Q6 := bx_f Q6 | replace Q6 := be_t Q6 | replace Q6 := be_f Q6)
        refine st_gno rfl rfl ?_
        refine st_gno rfl rfl ?_
        refine st_val (ro_pickF (v := .bool _) rfl rfl) ?_
        refine st_nil ?_
        refine nx_then ?_
        refine cd_condF rfl ?_
        refine cd_exit ?_
        refine ex_then ?_
        refine ex_then ?_
        refine ex_block ?_
        refine nx_then ?_
        refine cd_seq ?_
        refine cd_region ?_
        refine st_val (ro_move (v := .int _ _) rfl) ?_
        refine st_val (ro_gtr rfl rfl) ?_
        refine st_val (ro_move (v := .bool _) rfl) ?_
        refine st_split (t := 53) rfl (fun Q9 => ?_) (fun Q9 => ?_)
        · (try with_reducible first | replace Q9 := of_decide_eq_true Q9 | replace Q9 := of_decide_eq_false Q9 | replace Q9 := bn_t Q9 | replace Q9 := bn_f Q9)
          (try with_reducible first | replace Q9 := of_decide_eq_true Q9 | replace Q9 := of_decide_eq_false Q9 | replace Q9 := bx_t Q9 | replace Q9 := bx_f Q9 | replace Q9 := be_t Q9 | replace Q9 := be_f Q9)
          have hfin : ∀ P : Prop, (true = false) → P := fun _ h => nomatch h
          refine st_gno rfl rfl ?_
          refine st_gno rfl rfl ?_
          refine st_gno rfl rfl ?_
          refine st_gno rfl rfl ?_
          refine st_val (ro_pickT (v := .bool _) rfl rfl) ?_
          refine st_val (ro_assign (v := .bool _) rfl) ?_
          refine st_nil ?_
          refine nx_then ?_
          refine cd_ret ?_
          refine res1 (v := .bool _) rfl rfl ?_
          first
            | (have hx := hfin; exact ⟨⟨true, rfl, hx _⟩, (From.rfl_.next E1)⟩)
            | (refine ⟨⟨_, rfl, fun hb => ?_⟩, (From.rfl_.next E1)⟩
               have hb2 := of_decide_eq_false hb
               refine ⟨by omega, fun i h => ?_, by omega, fun i h => ?_⟩
               · have := hs4 i h (by omega); omega
               · have := hs5 i h (by omega); omega)
        · (try with_reducible first | replace Q9 := of_decide_eq_true Q9 | replace Q9 := of_decide_eq_false Q9 | replace Q9 := bn_t Q9 | replace Q9 := bn_f Q9)
          (try with_reducible first | replace Q9 := of_decide_eq_true Q9 | replace Q9 := of_decide_eq_false Q9 | replace Q9 := bx_t Q9 | replace Q9 := bx_f Q9 | replace Q9 := be_t Q9 | replace Q9 := be_f Q9)
          refine st_unguard rfl ?_
          refine st_val (ro_fieldAddr SesUni_f25_1 rfl) ?_
          refine st_unguard rfl ?_
          refine st_val (ro_load SesUni_g23 rfl (by exact (hk1.from_ From.rfl_).rd 1 rfl)) ?_
          refine st_unguard rfl ?_
          refine st_val (ro_len SesUni_l23 rfl) ?_
          refine st_unguard rfl ?_
          refine st_val (ro_gtr rfl rfl) ?_
          refine st_val (ro_pickF (v := .bool _) rfl rfl) ?_
          refine st_val (ro_assign (v := .bool _) rfl) ?_
          refine st_nil ?_
          refine nx_then ?_
          refine cd_ret ?_
          refine res1 (v := .bool _) rfl rfl ?_
          first
            | (have hx := hfin; exact ⟨⟨true, rfl, hx _⟩, (From.rfl_.next E1)⟩)
            | (refine ⟨⟨_, rfl, fun hb => ?_⟩, (From.rfl_.next E1)⟩
               have hb2 := of_decide_eq_false hb
               refine ⟨by omega, fun i h => ?_, by omega, fun i h => ?_⟩
               · have := hs4 i h (by omega); omega
               · have := hs5 i h (by omega); omega)
  · (try with_reducible first | replace Q3 := of_decide_eq_true Q3 | replace Q3 := of_decide_eq_false Q3 | replace Q3 := bn_t Q3 | replace Q3 := bn_f Q3)
    (try with_reducible first | replace Q3 := of_decide_eq_true Q3 | replace Q3 := of_decide_eq_false Q3 | replace Q3 := bx_t Q3 | replace Q3 := bx_f Q3 | replace Q3 := be_t Q3 | replace Q3 := be_f Q3)
    refine st_gno rfl rfl ?_
    refine st_gno rfl rfl ?_
    refine st_val (ro_pickF (v := .bool _) rfl rfl) ?_
    refine st_nil ?_
    refine nx_then ?_
    refine cd_condF rfl ?_
    refine cd_exit ?_
    refine ex_then ?_
    refine ex_then ?_
    refine ex_block ?_
    refine nx_then ?_
    refine cd_seq ?_
    refine cd_seq ?_
    refine cd_region ?_
    refine st_val (ro_assign (v := .int _ _) rfl) ?_
    refine st_nil ?_
    refine nx_then ?_
    refine cd_block ?_
    refine cd_loop (G := Nat × Nat) [30, 31, 32, 33, 34, 35, 36, 37, 38, 39, 40, 41, 42, 43, 44, 45, 46, 47, 48, 49, 50] (fun (n, k) => [(3, .int .i64 (n : Nat)), (5, .int .i64 (k : Nat))]) (fun (n, k) w' => k ≤ K.length ∧ n4 ≤ n ∧ n ≤ 100000000000000000 ∧ (∀ i (h : i < K.length), i < k → K[i].hl ≤ n) ∧ w1 = w') (fun (_, k) => K.length - k) ((n4, 0)) ⟨rfl, rfl, trivial⟩ ?_ ?_
    · exact ⟨Nat.zero_le _, Nat.le_refl _, by omega, fun i h h0 => absurd h0 (by omega), rfl⟩
    rintro ⟨n5, k5⟩ ρ10 w10 ⟨hkl5, hn5, hm5, hs5, rfl⟩
    refine cd_seq ?_
    refine cd_seq ?_
    refine cd_region ?_
    refine st_val (ro_move (v := .int _ _) rfl) ?_
    refine st_val (ro_fieldAddr SesUni_f25_1 rfl) ?_
    refine st_val (ro_load SesUni_g23 rfl (by exact (hk1.from_ From.rfl_).rd 1 rfl)) ?_
    refine st_val (ro_len SesUni_l23 rfl) ?_
    refine st_val (ro_lss rfl rfl) ?_
    refine st_val (ro_move (v := .bool _) rfl) ?_
    refine st_split (t := 35) rfl (fun Q11 => ?_) (fun Q11 => ?_)
    · (try with_reducible first | replace Q11 := of_decide_eq_true Q11 | replace Q11 := of_decide_eq_false Q11 | replace Q11 := bn_t Q11 | replace Q11 := bn_f Q11)
      (try with_reducible first | replace Q11 := of_decide_eq_true Q11 | replace Q11 := of_decide_eq_false Q11 | replace Q11 := bx_t Q11 | replace Q11 := bx_f Q11 | replace Q11 := be_t Q11 | replace Q11 := be_f Q11)
      refine st_unguard rfl ?_
      refine st_val (ro_move (v := .int _ _) rfl) ?_
      refine st_unguard rfl ?_
      refine st_val (ro_lss rfl rfl) ?_
      refine st_val (ro_pickT (v := .bool _) rfl rfl) ?_
      refine st_nil ?_
      refine nx_then ?_
      refine cd_cond rfl (fun Q12 => ?_) (fun Q12 => ?_)
      · (try with_reducible first | replace Q12 := of_decide_eq_true Q12 | replace Q12 := of_decide_eq_false Q12 | replace Q12 := bn_t Q12 | replace Q12 := bn_f Q12)
        (try with_reducible first | replace Q12 := of_decide_eq_true Q12 | replace Q12 := of_decide_eq_false Q12 | replace Q12 := bx_t Q12 | replace Q12 := bx_f Q12 | replace Q12 := be_t Q12 | replace Q12 := be_f Q12)
        obtain ⟨bb, ob, rfl, hct⟩ := hk (by omega)
        have hkK : k5 < K.length := by omega
        have hbk := hKh k5 hkK
        refine cd_skip ?_
        refine nx_then ?_
        refine cd_seq ?_
        refine cd_block ?_
        refine cd_region ?_
        refine st_val (ro_move (v := .int _ _) rfl) ?_
        refine st_val (ro_fieldAddr SesUni_f25_1 rfl) ?_
        refine st_val (ro_load SesUni_g23 rfl (by exact (hk1.from_ From.rfl_).rd 1 rfl)) ?_
        refine st_val (ro_move (v := .int _ _) rfl) ?_
        refine st_val (ro_indexAddrN SesUni_e23 rfl rfl (by omega)) ?_
        refine st_val (ro_fieldAddr SesUni_f33_4 rfl) ?_
        refine st_val (ro_fieldAddr SesUni_f31_2 rfl) ?_
        refine st_val (ro_load SesUni_g29 rfl (by exact cellF (From.rfl_.next E1) (hct k5 (by omega) 6 _ rfl))) ?_
        refine st_val (ro_len SesUni_l29 rfl) ?_
        refine st_val (ro_addN rfl rfl (by omega)) ?_
        refine st_val (ro_assign (v := .int _ _) rfl) ?_
        refine st_nil ?_
        refine nx_block ?_
        refine nx_then ?_
        refine cd_region ?_
        refine st_val (ro_move (v := .int _ _) rfl) ?_
        refine st_val (ro_addN (b := 1) rfl rfl (by omega)) ?_
        refine st_val (ro_assign (v := .int _ _) rfl) ?_
        refine st_nil ?_
        refine nx_cut ((_, k5 + 1)) ⟨(by first | rfl | (refine int_eq ?_; omega)), (by first | rfl | (refine int_eq ?_; omega)), trivial⟩ (by (iterate 47 refine agr_cons rfl ?_); exact agr_rfl) ⟨?_, ?_⟩
        · refine ⟨by omega, by omega, by omega, fun i h h0 => ?_, rfl⟩
          rcases Nat.lt_or_ge i k5 with a | a
          · have := hs5 i h a; omega
          · obtain rfl : i = k5 := by omega
            omega
        · show _ - _ < _ - _; omega
      · (try with_reducible first | replace Q12 := of_decide_eq_true Q12 | replace Q12 := of_decide_eq_false Q12 | replace Q12 := bn_t Q12 | replace Q12 := bn_f Q12)
        (try with_reducible first | replace Q12 := of_decide_eq_true Q12 | replace Q12 := of_decide_eq_false Q12 | replace Q12 := bx_t Q12 | replace Q12 := bx_f Q12 | replace Q12 := be_t Q12 | replace Q12 := be_f Q12)
        refine cd_exit ?_
        refine ex_then ?_
        refine ex_then ?_
        refine ex_block ?_
        refine nx_then ?_
        refine cd_seq ?_
        refine cd_region ?_
        refine st_val (ro_move (v := .int _ _) rfl) ?_
        refine st_val (ro_gtr rfl rfl) ?_
        refine st_val (ro_move (v := .bool _) rfl) ?_
        refine st_split (t := 53) rfl (fun Q13 => ?_) (fun Q13 => ?_)
        · (try with_reducible first | replace Q13 := of_decide_eq_true Q13 | replace Q13 := of_decide_eq_false Q13 | replace Q13 := bn_t Q13 | replace Q13 := bn_f Q13)
          (try with_reducible first | replace Q13 := of_decide_eq_true Q13 | replace Q13 := of_decide_eq_false Q13 | replace Q13 := bx_t Q13 | replace Q13 := bx_f Q13 | replace Q13 := be_t Q13 | replace Q13 := be_f Q13)
          have hfin : ∀ P : Prop, (true = false) → P := fun _ h => nomatch h
          refine st_gno rfl rfl ?_
          refine st_gno rfl rfl ?_
          refine st_gno rfl rfl ?_
          refine st_gno rfl rfl ?_
          refine st_val (ro_pickT (v := .bool _) rfl rfl) ?_
          refine st_val (ro_assign (v := .bool _) rfl) ?_
          refine st_nil ?_
          refine nx_then ?_
          refine cd_ret ?_
          refine res1 (v := .bool _) rfl rfl ?_
          first
            | (have hx := hfin; exact ⟨⟨true, rfl, hx _⟩, (From.rfl_.next E1)⟩)
            | (refine ⟨⟨_, rfl, fun hb => ?_⟩, (From.rfl_.next E1)⟩
               have hb2 := of_decide_eq_false hb
               refine ⟨by omega, fun i h => ?_, by omega, fun i h => ?_⟩
               · have := hs4 i h (by omega); omega
               · have := hs5 i h (by omega); omega)
        · (try with_reducible first | replace Q13 := of_decide_eq_true Q13 | replace Q13 := of_decide_eq_false Q13 | replace Q13 := bn_t Q13 | replace Q13 := bn_f Q13)
          (try with_reducible first | replace Q13 := of_decide_eq_true Q13 | replace Q13 := of_decide_eq_false Q13 | replace Q13 := bx_t Q13 | replace Q13 := bx_f Q13 | replace Q13 := be_t Q13 | replace Q13 := be_f Q13)
          refine st_unguard rfl ?_
          refine st_val (ro_fieldAddr SesUni_f25_1 rfl) ?_
          refine st_unguard rfl ?_
          refine st_val (ro_load SesUni_g23 rfl (by exact (hk1.from_ From.rfl_).rd 1 rfl)) ?_
          refine st_unguard rfl ?_
          refine st_val (ro_len SesUni_l23 rfl) ?_
          refine st_unguard rfl ?_
          refine st_val (ro_gtr rfl rfl) ?_
          refine st_val (ro_pickF (v := .bool _) rfl rfl) ?_
          refine st_val (ro_assign (v := .bool _) rfl) ?_
          refine st_nil ?_
          refine nx_then ?_
          refine cd_ret ?_
          refine res1 (v := .bool _) rfl rfl ?_
          first
            | (have hx := hfin; exact ⟨⟨true, rfl, hx _⟩, (From.rfl_.next E1)⟩)
            | (refine ⟨⟨_, rfl, fun hb => ?_⟩, (From.rfl_.next E1)⟩
               have hb2 := of_decide_eq_false hb
               refine ⟨by omega, fun i h => ?_, by omega, fun i h => ?_⟩
               · have := hs4 i h (by omega); omega
               · have := hs5 i h (by omega); omega)
    · (try with_reducible first | replace Q11 := of_decide_eq_true Q11 | replace Q11 := of_decide_eq_false Q11 | replace Q11 := bn_t Q11 | replace Q11 := bn_f Q11)
      (try with_reducible first | replace Q11 := of_decide_eq_true Q11 | replace Q11 := of_decide_eq_false Q11 | replace Q11 := bx_t Q11 | replace Q11 := bx_f Q11 | replace Q11 := be_t Q11 | replace Q11 := be_f Q11)
      refine st_gno rfl rfl ?_
      refine st_gno rfl rfl ?_
      refine st_val (ro_pickF (v := .bool _) rfl rfl) ?_
      refine st_nil ?_
      refine nx_then ?_
      refine cd_condF rfl ?_
      refine cd_exit ?_
      refine ex_then ?_
      refine ex_then ?_
      refine ex_block ?_
      refine nx_then ?_
      refine cd_seq ?_
      refine cd_region ?_
      refine st_val (ro_move (v := .int _ _) rfl) ?_
      refine st_val (ro_gtr rfl rfl) ?_
      refine st_val (ro_move (v := .bool _) rfl) ?_
      refine st_split (t := 53) rfl (fun Q14 => ?_) (fun Q14 => ?_)
      · (try with_reducible first | replace Q14 := of_decide_eq_true Q14 | replace Q14 := of_decide_eq_false Q14 | replace Q14 := bn_t Q14 | replace Q14 := bn_f Q14)
        (try with_reducible first | replace Q14 := of_decide_eq_true Q14 | replace Q14 := of_decide_eq_false Q14 | replace Q14 := bx_t Q14 | replace Q14 := bx_f Q14 | replace Q14 := be_t Q14 | replace Q14 := be_f Q14)
        have hfin : ∀ P : Prop, (true = false) → P := fun _ h => nomatch h
        refine st_gno rfl rfl ?_
        refine st_gno rfl rfl ?_
        refine st_gno rfl rfl ?_
        refine st_gno rfl rfl ?_
        refine st_val (ro_pickT (v := .bool _) rfl rfl) ?_
        refine st_val (ro_assign (v := .bool _) rfl) ?_
        refine st_nil ?_
        refine nx_then ?_
        refine cd_ret ?_
        refine res1 (v := .bool _) rfl rfl ?_
        first
          | (have hx := hfin; exact ⟨⟨true, rfl, hx _⟩, (From.rfl_.next E1)⟩)
          | (refine ⟨⟨_, rfl, fun hb => ?_⟩, (From.rfl_.next E1)⟩
             have hb2 := of_decide_eq_false hb
             refine ⟨by omega, fun i h => ?_, by omega, fun i h => ?_⟩
             · have := hs4 i h (by omega); omega
             · have := hs5 i h (by omega); omega)
      · (try with_reducible first | replace Q14 := of_decide_eq_true Q14 | replace Q14 := of_decide_eq_false Q14 | replace Q14 := bn_t Q14 | replace Q14 := bn_f Q14)
        (try with_reducible first | replace Q14 := of_decide_eq_true Q14 | replace Q14 := of_decide_eq_false Q14 | replace Q14 := bx_t Q14 | replace Q14 := bx_f Q14 | replace Q14 := be_t Q14 | replace Q14 := be_f Q14)
        refine st_unguard rfl ?_
        refine st_val (ro_fieldAddr SesUni_f25_1 rfl) ?_
        refine st_unguard rfl ?_
        refine st_val (ro_load SesUni_g23 rfl (by exact (hk1.from_ From.rfl_).rd 1 rfl)) ?_
        refine st_unguard rfl ?_
        refine st_val (ro_len SesUni_l23 rfl) ?_
        refine st_unguard rfl ?_
        refine st_val (ro_gtr rfl rfl) ?_
        refine st_val (ro_pickF (v := .bool _) rfl rfl) ?_
        refine st_val (ro_assign (v := .bool _) rfl) ?_
        refine st_nil ?_
        refine nx_then ?_
        refine cd_ret ?_
        refine res1 (v := .bool _) rfl rfl ?_
        first
          | (have hx := hfin; exact ⟨⟨true, rfl, hx _⟩, (From.rfl_.next E1)⟩)
          | (refine ⟨⟨_, rfl, fun hb => ?_⟩, (From.rfl_.next E1)⟩
             have hb2 := of_decide_eq_false hb
             refine ⟨by omega, fun i h => ?_, by omega, fun i h => ?_⟩
             · have := hs4 i h (by omega); omega
             · have := hs5 i h (by omega); omega)
end Go.Proofs.Ytbikemhokgcboaa
