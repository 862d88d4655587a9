/- SessionOnce: sessions, and their clients in the order of their use. -/
import Derived.Test.YtbikemhokgcboaaSesOpen
namespace Go.Proofs.Ytbikemhokgcboaa
open Go.RowKit
open Go.ChangeShapes Go.WideShapes Go.ChangeAt
theorem entry_eq : ∀ {V : List (Int × Int)}, (V.map (·.1)).Nodup → ∀ {a b : Int × Int}, a ∈ V → b ∈ V → a.1 = b.1 → a = b
  | [], _, _, _, h, _, _ => by cases h
  | p :: r, hn, a, b, ha, hb, he => by
    simp only [List.map_cons, List.nodup_cons] at hn
    rcases List.mem_cons.1 ha with e1 | e1 <;> rcases List.mem_cons.1 hb with e2 | e2
    · rw [e1, e2]
    · exact absurd (List.mem_map.2 ⟨b, e2, by rw [← he, e1]⟩) hn.1
    · exact absurd (List.mem_map.2 ⟨a, e1, by rw [he, e2]⟩) hn.1
    · exact entry_eq hn.2 e1 e2 he
theorem perm_out {α : Type} (L : List α) (i : Nat) (h : i < L.length) : L.Perm (L[i] :: (L.take i ++ L.drop (i + 1))) := by
  have e : L = L.take i ++ L[i] :: L.drop (i + 1) := by simp
  conv => lhs; rw [e]
  exact List.perm_middle
theorem perm_in {α : Type} (M : List α) (i : Nat) (x : α) : (M.take i ++ [x] ++ M.drop i).Perm (M ++ [x]) := by
  have e : M ++ [x] = M.take i ++ (M.drop i ++ [x]) := by rw [← List.append_assoc, List.take_append_drop]
  rw [e, List.append_assoc]
  exact List.Perm.append_left _ (List.perm_append_comm)
section
variable {α : Type} {pr : α → Int × Int}
/-- one taken out of both -/
theorem perm_drop {L : List α} {V : List (Int × Int)} (hp : (L.map pr).Perm V) (hn : (V.map (·.1)).Nodup) {i k : Nat} (hi : i < L.length) (hk : k < V.length) (he : (pr L[i]).1 = V[k].1) : ((L.take i ++ L.drop (i + 1)).map pr).Perm (V.take k ++ V.drop (k + 1)) := by
  have h1 : pr L[i] ∈ V := hp.subset (List.mem_map.2 ⟨_, List.getElem_mem hi, rfl⟩)
  have e := entry_eq hn h1 (List.getElem_mem hk) he
  have h2 := (perm_out L i hi).map pr
  have h3 := perm_out V k hk
  rw [List.map_cons, e] at h2
  exact (h2.symm.trans (hp.trans h3)).cons_inv
theorem perm_set {L : List α} {V : List (Int × Int)} (hp : (L.map pr).Perm V) (hn : (V.map (·.1)).Nodup) {i k : Nat} (hi : i < L.length) (hk : k < V.length) (he : (pr L[i]).1 = V[k].1) (y : α) : ((L.set i y).map pr).Perm (V.take k ++ V.drop (k + 1) ++ [pr y]) := by
  have h1 := perm_drop hp hn hi hk he
  have h2 := (perm_out (L.set i y) i (by rw [List.length_set]; exact hi)).map pr
  rw [List.getElem_set_self, List.take_set_of_le (Nat.le_refl i), List.drop_set_of_lt (Nat.lt_succ_self i), List.map_cons] at h2
  exact h2.trans ((h1.cons (pr y)).trans (List.perm_append_comm (l₁ := [pr y])))
/-- the one that was used longest ago -/
theorem perm_evict {L : List α} {v : Int × Int} {V : List (Int × Int)} (hp : (L.map pr).Perm (v :: V)) (ho : (v :: V).Pairwise fun a b => a.2 < b.2) {k : Nat} (hk : k < L.length) (hl : ∀ j (hj : j < L.length), (pr L[k]).2 ≤ (pr L[j]).2) : pr L[k] = v ∧ ((L.take k ++ L.drop (k + 1)).map pr).Perm V := by
  have h1 : pr L[k] ∈ v :: V := hp.subset (List.mem_map.2 ⟨_, List.getElem_mem hk, rfl⟩)
  have h2 : v ∈ L.map pr := hp.symm.subset (.head _)
  obtain ⟨x, hx, hv⟩ := List.mem_map.1 h2
  obtain ⟨j, hj, rfl⟩ := List.getElem_of_mem hx
  have h3 := hl j hj
  rw [hv] at h3
  have e : pr L[k] = v := by
    rcases List.mem_cons.1 h1 with a | a
    · exact a
    · have := (List.pairwise_cons.1 ho).1 _ a
      omega
  have h4 := (perm_out L k hk).map pr
  rw [List.map_cons, e] at h4
  exact ⟨e, (h4.symm.trans hp).cons_inv⟩
theorem ord_snoc {V : List (Int × Int)} (ho : V.Pairwise fun a b => a.2 < b.2) {p : Int × Int} (h : ∀ q ∈ V, q.2 < p.2) : (V ++ [p]).Pairwise fun a b => a.2 < b.2 :=
  List.pairwise_append.2 ⟨ho, List.pairwise_singleton _ _, fun a ha b hb => by rw [List.mem_singleton.1 hb]; exact h a ha⟩
theorem ord_drop {V : List (Int × Int)} (ho : V.Pairwise fun a b => a.2 < b.2) (k : Nat) : (V.take k ++ V.drop (k + 1)).Pairwise fun a b => a.2 < b.2 := by
  refine ho.sublist ?_
  have h : (V.take k ++ V.drop (k + 1)).Sublist (V.take k ++ V.drop k) := (List.Sublist.refl _).append (by
    rw [← List.drop_drop]
    exact List.drop_sublist _ _)
  rwa [List.take_append_drop] at h
end
def prS (x : Ses) : Int × Int := (x.c, x.u)
def OnceSt (L : List Ses) (V : List (Int × Int)) (now : Int) : Prop := ValidL L ∧ (L.map prS).Perm V ∧ (V.Pairwise fun a b => a.2 < b.2) ∧ ∀ p ∈ V, p.1 ≤ now ∧ p.2 ≤ now
theorem valid_pair {L : List Ses} (h : ValidL L) : (L.map fun x : Ses => x.c).Pairwise (· < ·) := by
  rw [List.pairwise_map, List.pairwise_iff_getElem]
  exact fun i j hi hj hij => valid_rise h i j hi hj hij
theorem valid_of {L : List Ses} (h1 : ∀ x ∈ L, vS x = true) (h2 : (L.map fun x : Ses => x.c).Pairwise (· < ·)) (h3 : L.length ≤ 8) : ValidL L := by
  rw [List.pairwise_map, List.pairwise_iff_getElem] at h2
  exact ⟨h3, fun i hi => ⟨h1 _ (List.getElem_mem hi), fun h0 => h2 (i - 1) i (by omega) hi (by omega)⟩⟩
theorem valid_mem {L : List Ses} (h : ValidL L) : ∀ x ∈ L, vS x = true := fun x hx => by
  obtain ⟨i, hi, rfl⟩ := List.getElem_of_mem hx
  exact (h.2 i hi).1
theorem vS_norm {x : Ses} (h : vS x = true) : vS (norm x) = true := by
  have hl := vS_hl h
  unfold vS at h ⊢
  rw [hl] at h
  exact h
theorem norm_map (L : List Ses) : (L.map norm).map prS = L.map prS := by rw [List.map_map]; rfl
theorem norm_mapc (L : List Ses) : ((L.map norm).map fun x : Ses => x.c) = L.map fun x : Ses => x.c := by rw [List.map_map]; rfl
theorem nodupV {L : List Ses} {V : List (Int × Int)} (hv : ValidL L) (hp : (L.map prS).Perm V) : (V.map (·.1)).Nodup := by
  refine (hp.map (·.1)).nodup_iff.1 ?_
  rw [List.map_map]
  exact (valid_pair hv).imp fun h e => by omega
theorem in_V {L : List Ses} {V : List (Int × Int)} (hp : (L.map prS).Perm V) {j : Nat} (hj : j < L.length) : (L[j].c, L[j].u) ∈ V := hp.subset (List.mem_map.2 ⟨_, List.getElem_mem hj, rfl⟩)
theorem once_len {L : List Ses} {V : List (Int × Int)} {now : Int} (h : OnceSt L V now) : L.length = V.length := by
  have := h.2.1.length_eq
  rwa [List.length_map] at this
theorem valid_ins {M : List Ses} {t : Int} {i : Nat} (h1 : ∀ x ∈ M, vS x = true) (h2 : (M.map fun x : Ses => x.c).Pairwise (· < ·)) (h3 : M.length ≤ 7) (hs : StandAt M t i) (ht : 1 ≤ t ∧ t < 1099511627776) : ValidL (M.take i ++ [newS t] ++ M.drop i) := by
  obtain ⟨hi, ha, hb⟩ := hs
  refine valid_of (fun x hx => ?_) ?_ (by simp; omega)
  · rw [List.append_assoc] at hx
    rcases List.mem_append.1 hx with hx | hx
    · exact h1 x (List.mem_of_mem_take hx)
    · rcases List.mem_append.1 hx with hx | hx
      · rw [List.mem_singleton.1 hx]
        simp [vS, vR, newS]
        omega
      · exact h1 x (List.mem_of_mem_drop hx)
  · rw [List.append_assoc, List.map_append, List.map_append, List.pairwise_append]
    have hsub1 : ((M.take i).map fun x : Ses => x.c).Pairwise (· < ·) := h2.sublist ((List.take_sublist i M).map _)
    have hsub2 : ((M.drop i).map fun x : Ses => x.c).Pairwise (· < ·) := h2.sublist ((List.drop_sublist i M).map _)
    have hlt : ∀ a ∈ (M.take i).map fun x : Ses => x.c, a < t := fun a h => by
      obtain ⟨x, hx, rfl⟩ := List.mem_map.1 h
      obtain ⟨j, hj, rfl⟩ := List.getElem_of_mem hx
      rw [List.length_take] at hj
      rw [List.getElem_take]
      exact ha j (by omega) (by omega)
    have hgt : ∀ a ∈ (M.drop i).map fun x : Ses => x.c, t < a := fun a h => by
      obtain ⟨x, hx, rfl⟩ := List.mem_map.1 h
      obtain ⟨j, hj, rfl⟩ := List.getElem_of_mem hx
      rw [List.length_drop] at hj
      rw [List.getElem_drop]
      exact hb (i + j) (by omega) (by omega)
    refine ⟨hsub1, List.pairwise_append.2 ⟨List.pairwise_singleton _ _, hsub2, fun a h b hb' => ?_⟩, fun a h b hb' => ?_⟩
    · rw [List.map_cons, List.map_nil, List.mem_singleton] at h
      rw [h]
      exact hgt b hb'
    · rcases List.mem_append.1 hb' with hb' | hb'
      · rw [List.map_cons, List.map_nil, List.mem_singleton] at hb'
        rw [hb']
        exact hlt a h
      · exact Int.lt_trans (hlt a h) (hgt b hb')
theorem once_nil : OnceSt [] [] 0 := ⟨valid_nil, List.Perm.nil, List.Pairwise.nil, fun p h => by cases h⟩
theorem once_open {L K : List Ses} {V : List (Int × Int)} {now t err : Int} (h : OnceSt L V now) (ht : t = now + 1) (h1 : 1 ≤ t ∧ t < 1099511627776) (g : OpenGot L t K err) :
    err = 0 ∧ (V.length ≠ 8 → OnceSt K (V ++ [(t, t)]) t) ∧ (V.length = 8 → ∃ v V', V = v :: V' ∧ OnceSt K (V' ++ [(t, t)]) t ∧ ∀ j (h : j < K.length), K[j].c ≠ v.1) := by
  obtain ⟨hv, hp, ho, hb⟩ := h
  have hlen : L.length = V.length := by have := hp.length_eq; rwa [List.length_map] at this
  have hmay : mayO L t := ⟨decide_eq_true (by omega), fun j hj e => by
    have := (hb _ (in_V hp hj)).1
    simp only at this
    omega⟩
  rcases g with ⟨hn, _⟩ | ⟨_, he, M', i, hE, hs, rfl⟩
  · exact absurd hmay hn
  refine ⟨he, fun h8 => ?_, fun h8 => ?_⟩
  · rcases hE with ⟨_, rfl⟩ | ⟨h8', _⟩
    · refine ⟨valid_ins (fun x hx => ?_) (by rw [norm_mapc]; exact valid_pair hv) ?_ hs h1, ?_, ord_snoc ho fun q hq => ?_, fun p hq => ?_⟩
      · obtain ⟨y, hy, rfl⟩ := List.mem_map.1 hx
        exact vS_norm (valid_mem hv y hy)
      · have := hv.1
        rw [List.length_map]
        omega
      · have := (perm_in (L.map norm) i (newS t)).map prS
        have e : (L.map norm ++ [newS t]).map prS = L.map prS ++ [(t, t)] := by rw [List.map_append, norm_map]; rfl
        rw [e] at this
        exact this.trans (List.Perm.append_right _ hp)
      · have := (hb q hq).2
        show q.2 < t
        omega
      · rcases List.mem_append.1 hq with hq | hq
        · have := hb p hq; omega
        · rw [List.mem_singleton.1 hq]
          exact ⟨Int.le_refl _, Int.le_refl _⟩
    · rw [List.length_map] at h8'
      omega
  · rcases hE with ⟨h8', _⟩ | ⟨_, k, hk, rfl⟩
    · rw [List.length_map] at h8'
      omega
    · obtain ⟨v, V', rfl⟩ : ∃ v V', V = v :: V' := by
        cases V with
        | nil => simp at h8
        | cons v V' => exact ⟨v, V', rfl⟩
      obtain ⟨hk0, _, hkl⟩ := hk
      obtain ⟨hev, hpe⟩ := perm_evict (pr := prS) (L := L.map norm) (by rw [norm_map]; exact hp) ho hk0 hkl
      have hnd := nodupV hv hp
      rw [List.map_cons, List.nodup_cons] at hnd
      refine ⟨v, V', rfl, ⟨valid_ins (fun x hx => ?_) ?_ ?_ hs h1, ?_, ord_snoc (List.pairwise_cons.1 ho).2 fun q hq => ?_, fun p hq => ?_⟩, fun j hj e => ?_⟩
      · have : x ∈ L.map norm := by
          rcases List.mem_append.1 hx with a | a
          · exact List.mem_of_mem_take a
          · exact List.mem_of_mem_drop a
        obtain ⟨y, hy, rfl⟩ := List.mem_map.1 this
        exact vS_norm (valid_mem hv y hy)
      · have hsub : ((L.map norm).take k ++ (L.map norm).drop (k + 1)).Sublist ((L.map norm).take k ++ (L.map norm).drop k) := (List.Sublist.refl _).append (by rw [← List.drop_drop]; exact List.drop_sublist _ _)
        rw [List.take_append_drop] at hsub
        have := valid_pair hv
        rw [← norm_mapc] at this
        exact this.sublist (hsub.map _)
      · rw [List.length_map] at hk0
        simp
        have : L.length = 8 := by rw [hlen]; exact h8
        omega
      · have := (perm_in ((L.map norm).take k ++ (L.map norm).drop (k + 1)) i (newS t)).map prS
        have e : ((L.map norm).take k ++ (L.map norm).drop (k + 1) ++ [newS t]).map prS = ((L.map norm).take k ++ (L.map norm).drop (k + 1)).map prS ++ [(t, t)] := by rw [List.map_append]; rfl
        rw [e] at this
        exact this.trans (List.Perm.append_right _ hpe)
      · have := (hb q (.tail _ hq)).2
        show q.2 < t
        omega
      · rcases List.mem_append.1 hq with hq | hq
        · have := hb p (.tail _ hq); omega
        · rw [List.mem_singleton.1 hq]
          exact ⟨Int.le_refl _, Int.le_refl _⟩
      · have hm := ((perm_in ((L.map norm).take k ++ (L.map norm).drop (k + 1)) i (newS t)).subset (List.getElem_mem hj))
        rcases List.mem_append.1 hm with a | a
        · have := hpe.subset (List.mem_map.2 ⟨_, a, rfl⟩)
          exact hnd.1 (List.mem_map.2 ⟨_, this, e⟩)
        · rw [List.mem_singleton] at a
          rw [a] at e
          have := (hb v (.head _)).1
          have e2 : t = v.1 := e
          omega
theorem once_done {L K : List Ses} {V : List (Int × Int)} {now t cl err : Int} (h : OnceSt L V now) (ht : t = now + 1) (h1 : 1 ≤ t ∧ t < 1099511627776) {k : Nat} (hk : k < V.length) (hc : cl = V[k].1) (g : DoneGot L cl t 0 t 0 t K err) :
    err = 0 ∧ OnceSt K (V.take k ++ V.drop (k + 1) ++ [(cl, t)]) t ∧ ∃ i, ∃ h : i < K.length, K[i] = ⟨cl, t, 0, t, none, 0, 0, t⟩ := by
  obtain ⟨hv, hp, ho, hb⟩ := h
  have hokd : okD t t 0 t 0 = true := by
    simp [okD, inE, vR]
    omega
  have hin : ∃ i, ∃ h : i < L.length, L[i].c = cl := by
    obtain ⟨x, hx, e⟩ := List.mem_map.1 (hp.symm.subset (List.getElem_mem hk))
    obtain ⟨i, hi, rfl⟩ := List.getElem_of_mem hx
    exact ⟨i, hi, by rw [hc, ← e]; rfl⟩
  rcases g with ⟨hn, _⟩ | ⟨_, hn, _⟩ | ⟨i, hi, _, hic, rfl, he⟩
  · rw [hokd] at hn; cases hn
  · obtain ⟨i, hi, e⟩ := hin
    exact absurd e (hn i hi)
  have hi' : i < (L.map norm).length := by rw [List.length_map]; exact hi
  have hcn : ((L.map norm)[i]'hi').c = cl := by rw [List.getElem_map]; exact hic
  refine ⟨he, ⟨valid_of (fun x hx => ?_) ?_ (by rw [List.length_set, List.length_map]; exact hv.1), ?_, ord_snoc (ord_drop ho k) fun q hq => ?_, fun p hq => ?_⟩, i, by rw [List.length_set]; exact hi', by rw [List.getElem_set_self]⟩
  · rcases List.mem_or_eq_of_mem_set hx with a | a
    · obtain ⟨y, hy, rfl⟩ := List.mem_map.1 a
      exact vS_norm (valid_mem hv y hy)
    · rw [a]
      have hcv := valid_mem hv _ (List.getElem_mem hi)
      unfold vS at hcv
      rw [Bool.and_eq_true] at hcv
      have hcv1 := of_decide_eq_true hcv.1
      rw [hic] at hcv1
      simp [vS, vR]
      omega
  · rw [List.map_set]
    have e : (L.map norm |>.map fun x : Ses => x.c).set i cl = (L.map norm).map fun x : Ses => x.c := by
      apply List.ext_getElem?
      intro j
      rw [List.getElem?_set]
      split
      · rename_i e
        subst e
        rw [if_pos (by rw [List.length_map]; exact hi'), List.getElem?_eq_getElem (by rw [List.length_map]; exact hi'), List.getElem_map, hcn]
      · rfl
    show (((L.map norm).map fun x : Ses => x.c).set i cl).Pairwise _
    rw [e, norm_mapc]
    exact valid_pair hv
  · exact perm_set (pr := prS) (L := L.map norm) (by rw [norm_map]; exact hp) (nodupV hv hp) hi' hk (by show ((L.map norm)[i]'hi').c = _; rw [hcn, hc]) _
  · have : q ∈ V := by
      rcases List.mem_append.1 hq with a | a
      · exact List.mem_of_mem_take a
      · exact List.mem_of_mem_drop a
    have := (hb q this).2
    show q.2 < t
    omega
  · rcases List.mem_append.1 hq with hq | hq
    · have : p ∈ V := by
        rcases List.mem_append.1 hq with a | a
        · exact List.mem_of_mem_take a
        · exact List.mem_of_mem_drop a
      have := hb p this
      omega
    · rw [List.mem_singleton.1 hq]
      have := (hb _ (List.getElem_mem hk)).1
      rw [← hc] at this
      exact ⟨by show cl ≤ t; omega, Int.le_refl _⟩
theorem once_close {L K : List Ses} {V : List (Int × Int)} {t cl err : Int} (h : OnceSt L V t) {k : Nat} (hk : k < V.length) (hc : cl = V[k].1) (g : CloseGot L cl K err) : err = 0 ∧ OnceSt K (V.take k ++ V.drop (k + 1)) t ∧ ∀ j (h : j < K.length), K[j].c ≠ cl := by
  obtain ⟨hv, hp, ho, hb⟩ := h
  have hin : ∃ i, ∃ h : i < L.length, L[i].c = cl := by
    obtain ⟨x, hx, e⟩ := List.mem_map.1 (hp.symm.subset (List.getElem_mem hk))
    obtain ⟨i, hi, rfl⟩ := List.getElem_of_mem hx
    exact ⟨i, hi, by rw [hc, ← e]; rfl⟩
  rcases g with ⟨hn, _⟩ | ⟨i, hi, hic, rfl, he⟩
  · obtain ⟨i, hi, e⟩ := hin
    exact absurd e (hn i hi)
  have hi' : i < (L.map norm).length := by rw [List.length_map]; exact hi
  have hcn : ((L.map norm)[i]'hi').c = cl := by rw [List.getElem_map]; exact hic
  have hnd := nodupV hv hp
  have hpd := perm_drop (pr := prS) (L := L.map norm) (by rw [norm_map]; exact hp) hnd hi' hk (by show ((L.map norm)[i]'hi').c = _; rw [hcn, hc])
  have hsub : ((L.map norm).take i ++ (L.map norm).drop (i + 1)).Sublist ((L.map norm).take i ++ (L.map norm).drop i) := (List.Sublist.refl _).append (by rw [← List.drop_drop]; exact List.drop_sublist _ _)
  rw [List.take_append_drop] at hsub
  refine ⟨he, ⟨valid_of (fun x hx => ?_) ?_ (Nat.le_trans hsub.length_le (by rw [List.length_map]; exact hv.1)), hpd, ord_drop ho k, fun p hq => ?_⟩, fun j hj e => ?_⟩
  · obtain ⟨y, hy, rfl⟩ := List.mem_map.1 (hsub.subset hx)
    exact vS_norm (valid_mem hv y hy)
  · have := valid_pair hv
    rw [← norm_mapc] at this
    exact this.sublist (hsub.map _)
  · rcases List.mem_append.1 hq with a | a
    · exact hb p (List.mem_of_mem_take a)
    · exact hb p (List.mem_of_mem_drop a)
  · have hm := hpd.subset (List.mem_map.2 ⟨_, List.getElem_mem hj, rfl⟩)
    have h2 := (perm_out V k hk).map (·.1)
    have h3 := h2.nodup_iff.1 hnd
    rw [List.map_cons, List.nodup_cons] at h3
    exact h3.1 (List.mem_map.2 ⟨_, hm, by show _ = V[k].1; rw [← hc]; exact e⟩)
theorem beg_none {K : List Ses} {cl sq : Int} {v : Value} (h : BegGot tellS K cl sq v) (hn : ∀ j (h : j < K.length), K[j].c ≠ cl) (hs : 1 ≤ sq ∧ sq < 1099511627776) : v = rV 0 0 none 0 0 false 9 := by
  rcases h with ⟨h, _⟩ | ⟨_, _, h⟩ | ⟨i, hi, _, e, _⟩
  · exact absurd (decide_eq_true hs) (by unfold inE at h; rw [h]; decide)
  · exact h
  · exact absurd e (hn i hi)
theorem beg_at {K : List Ses} (hv : ValidL K) {cl t sq : Int} {v : Value} (h : BegGot tellS K cl sq v) {i : Nat} (hi : i < K.length) (hK : K[i] = ⟨cl, t, 0, t, none, 0, 0, t⟩) (hs : 1 ≤ sq ∧ sq < 1099511627776) :
    (sq = t → v = rV 0 t none 0 0 true 0) ∧ (sq < t → v = rV 0 0 none 0 0 false 10) ∧ (t < sq → v = rV 0 0 none 0 0 false 0) := by
  have hc : K[i].c = cl := by rw [hK]
  rcases h with ⟨h, _⟩ | ⟨_, hn, _⟩ | ⟨j, hj, _, e, h⟩
  · exact absurd (decide_eq_true hs) (by unfold inE at h; rw [h]; decide)
  · exact absurd hc (hn i hi)
  · obtain rfl : i = j := one_place (valid_rise hv) hi hj hc e
    rw [hK] at h
    simp only at h
    rcases h with ⟨h1, h2⟩ | ⟨h1, h2⟩ | ⟨h1, h2⟩
    · exact ⟨fun _ => by omega, fun _ => h2, fun _ => by omega⟩
    · exact ⟨fun _ => by omega, fun _ => by omega, fun _ => h2⟩
    · exact ⟨fun _ => h2, fun _ => by omega, fun _ => by omega⟩

end Go.Proofs.Ytbikemhokgcboaa
