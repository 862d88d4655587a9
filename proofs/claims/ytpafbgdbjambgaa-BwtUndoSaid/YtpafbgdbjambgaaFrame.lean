/- THE FRAME OF A LAW OF ONE ARGUMENT: what the walk gives (it returns true, and what was there is as it was) is what the row asks. -/
import Derived.Test.YtpafbgdbjambgaaBase
import Derived.Test.YtpafbgdbjambgaaRows
import Derived.ProofKit
import Derived.Deep.Slices
import Derived.Deep.Fields
import Derived.ChangeSame
import Derived.SizedLaws
import Derived.Deep.DeepHandedRow
import Derived.Lib.LaidTab
namespace Go.Proofs.Ytpafbgdbjambgaa
open Go.ChangeShapes Go.WideShapes Go.ChangeAt Go.RowKit

theorem Try.own : ownKnob Try.prog.godebug = none := by kernel_rfl
theorem Try.laidOut : laidOutB Try.prog = true := by kernel_rfl

section
variable {H : Type} {enc : TypeId × Value → H} {P : Program}
theorem post_of_below {f : Func} {s : ChangeSpec} {apart fresh handsOn again : Bool} {W W' : World} {args : Array Value} {v : Value} {ds gs : List (DataW H)} {before pa pv : List MemPlace}
    (hW : DataW.Whole enc P f.params.toList s.vars apart W args.toList ds gs before)
    (hres : ∀ (b : Nat) (sp : Nat → Bool) (hd : Bool), DataW.TrodAll enc P W' b sp hd f.resultTypes.toList (v.resultList f.resultTypes.size) (s.fn H (ds ++ gs)).results [])
    (hargs : ∀ sp : Nat → Bool, (∀ p ∈ before, sp p.block = true) → DataW.TrodAll enc P W' 0 sp true f.params.toList args.toList (s.fn H (ds ++ gs)).args pa)
    (hvars : ∀ sp : Nat → Bool, (∀ p ∈ before, sp p.block = true) → DataW.TrodVars enc P W' sp s.vars (s.fn H (ds ++ gs)).vars pv)
    (hps : before = pa ++ pv) (hb : Below W.heap.size W W')
    (hok : ∀ (j : Nat) (t : TypeId) (r : Value), f.resultTypes[j]? = some t → (v.resultList f.resultTypes.size)[j]? = some r → Value.okWide P W' .any 0 t r) :
    s.post enc P f apart fresh handsOn again W args v W' := by
  have hlt : ∀ p ∈ before, p.block < W.heap.size := fun p hp => hW.lt p hp
  have hold : ∀ p ∈ before, (fun b => decide (b < W.heap.size)) p.block = true := fun p hp => by simpa using hlt p hp
  refine ⟨ds, gs, before, [], pa, pv, hW, hres _ _ _, hargs _ hold, hvars _ hold, World.keptBut_mono (fun p hp => ⟨hp, ?_⟩) (hb.frame (· ∈ before)), fun _ => ?_⟩
  · rw [hps, List.mem_append] at hp
    exact Or.inr hp
  · obtain ⟨_, _, _, _, _, hz, hn⟩ := hW
    refine ⟨hok, _, _, ([] ++ pa) ++ pv, ⟨[] ++ pa, pv, trodAll_append (hargs _ (fun _ _ => rfl)) (hres _ _ _), hvars _ (fun _ _ => rfl), rfl, ?_, ?_⟩, ?_⟩
    · intro b off hp
      have hin : MemPlace.cell b off ∈ before := by rw [hps]; simpa using hp
      rw [hb.frozen (hlt _ hin)]
      exact hz b off hin
    · intro ha
      have := hn ha
      rw [hps] at this
      simpa using this
    · intro p hp _
      rw [hps]
      simpa using hp
end

/-- THE STEP of a law with one argument. -/
theorem law_step {H : Type} {enc : TypeId × Value → H} (F : FuncId) (f : Func) (T Tb : TypeId) (s : ChangeSpec) (hp : f.params = #[T]) (hr : f.resultTypes = #[Tb]) (hTb : Try.prog.underlying Tb = some .bool)
    (hvars : s.vars = []) (hfn : ∀ d : DataW H, s.fn H [d] = { results := [.lit (.bool true)], args := [d] }) (hrec : Try.prog.readableRec T = true) (hrow : T < Try.prog.types.size)
    (walk : ∀ (W : World) (base : Nat) (v : Value) (d : DataW H) (p : List MemPlace), Value.okWide Try.prog W .any base T v → DataW.Trod enc Try.prog W 0 (fun _ => true) true T v d p → (∀ n ∈ d.weights Try.prog T, n ≤ 140737488351232) →
      Calls Try.prog F #[v] W fun e W' => e = .returned (.bool true) ∧ From W W')
    (W : World) (base : Nat) (args : Array Value) (ds gs : List (DataW H)) (before : List MemPlace)
    (hval0 : ∀ (j : Nat) t v, f.params[j]? = some t → args[j]? = some v → Value.okWide Try.prog W .any base t v)
    (hW : DataW.Whole enc Try.prog f.params.toList s.vars false W args.toList ds gs before)
    (hsz : (DataW.weightsEach Try.prog (f.params.toList ++ s.plain.varTypes Try.prog) (ds ++ gs)).all (· ≤ reachBytes) = true) :
    Calls Try.prog F args W fun e W' => ∃ v, e = .returned v ∧ s.post enc Try.prog f false true false false W args v W' := by
  have hlt : ∀ x ∈ before, x.block < W.heap.size := fun x hx => hW.lt x hx
  have hW' := hW
  obtain ⟨p, q, hA, hV, rfl, hfz, hnd⟩ := hW
  rw [hp] at hA hval0 hsz
  rw [hvars] at hV
  obtain ⟨v0, d0, rfl, rfl, h0⟩ := trodAll_one hA
  obtain ⟨rfl, rfl⟩ := trodVars_none hV
  simp only [List.append_nil] at hW' hlt
  refine (walk W base v0 d0 p (hval0 0 T v0 rfl rfl) h0 (fun n hn => Nat.le_trans (by simpa using List.all_eq_true.1 hsz n (DataW.weights_mem_each (j := 0) (t := T) (d := d0) rfl rfl n hn)) (show reachBytes ≤ 140737488351232 by decide))).mono fun e W' ⟨he, hb⟩ => ?_
  subst he
  refine ⟨_, rfl, post_of_below (pa := p) (pv := []) hW' ?_ ?_ ?_ (by simp) hb ?_⟩
  · intro b sp hd
    rw [List.append_nil, hfn, hr]
    exact trodAll_mk1 (shut_bool hTb _)
  · intro sp hsp
    rw [List.append_nil, hfn, hp]
    exact trodAll_mk1 (WideElems.Trod_stays Try.laidOut hrec hrow h0 (fun x hx => hb.same (hlt x hx)) hsp)
  · intro sp hsp
    rw [List.append_nil, hfn, hvars]
    simp [DataW.TrodVars]
  · exact ok_one hr rfl (okWide_bool_mk hTb _)

/-- THE STEP of a law with one argument, over variables that are laid. -/
theorem law_step_laid {H : Type} {enc : TypeId × Value → H} (F : FuncId) (f : Func) (T Tb : TypeId) (s : ChangeSpec) (hp : f.params = #[T]) (hr : f.resultTypes = #[Tb]) (hTb : Try.prog.underlying Tb = some .bool)
    (hvars : s.vars = []) (hfn : ∀ d : DataW H, s.fn H [d] = { results := [.lit (.bool true)], args := [d] }) (hrec : Try.prog.readableRec T = true) (hrow : T < Try.prog.types.size) (laid : List (String × DataW Unit))
    (walk : ∀ (W : World) (base : Nat) (v : Value) (d : DataW H) (p : List MemPlace), laidMetH Try.prog laid W → W.ShapedOpen Try.prog → Value.okWide Try.prog W .any base T v → DataW.Trod enc Try.prog W 0 (fun _ => true) true T v d p → (∀ n ∈ d.weights Try.prog T, n ≤ 140737488351232) →
      Calls Try.prog F #[v] W fun e W' => e = .returned (.bool true) ∧ From W W')
    (W : World) (base : Nat) (args : Array Value) (ds gs : List (DataW H)) (before : List MemPlace)
    (hval0 : ∀ (j : Nat) t v, f.params[j]? = some t → args[j]? = some v → Value.okWide Try.prog W .any base t v)
    (hW : DataW.Whole enc Try.prog f.params.toList s.vars false W args.toList ds gs before)
    (hsz : (DataW.weightsEach Try.prog (f.params.toList ++ s.plain.varTypes Try.prog) (ds ++ gs)).all (· ≤ reachBytes) = true)
    (hL : laidMetH Try.prog laid W) (hS : W.ShapedOpen Try.prog) :
    Calls Try.prog F args W fun e W' => ∃ v, e = .returned v ∧ s.post enc Try.prog f false true false false W args v W' := by
  have hlt : ∀ x ∈ before, x.block < W.heap.size := fun x hx => hW.lt x hx
  have hW' := hW
  obtain ⟨p, q, hA, hV, rfl, hfz, hnd⟩ := hW
  rw [hp] at hA hval0 hsz
  rw [hvars] at hV
  obtain ⟨v0, d0, rfl, rfl, h0⟩ := trodAll_one hA
  obtain ⟨rfl, rfl⟩ := trodVars_none hV
  simp only [List.append_nil] at hW' hlt
  refine (walk W base v0 d0 p hL hS (hval0 0 T v0 rfl rfl) h0 (fun n hn => Nat.le_trans (by simpa using List.all_eq_true.1 hsz n (DataW.weights_mem_each (j := 0) (t := T) (d := d0) rfl rfl n hn)) (show reachBytes ≤ 140737488351232 by decide))).mono fun e W' ⟨he, hb⟩ => ?_
  subst he
  refine ⟨_, rfl, post_of_below (pa := p) (pv := []) hW' ?_ ?_ ?_ (by simp) hb ?_⟩
  · intro b sp hd
    rw [List.append_nil, hfn, hr]
    exact trodAll_mk1 (shut_bool hTb _)
  · intro sp hsp
    rw [List.append_nil, hfn, hp]
    exact trodAll_mk1 (WideElems.Trod_stays Try.laidOut hrec hrow h0 (fun x hx => hb.same (hlt x hx)) hsp)
  · intro sp hsp
    rw [List.append_nil, hfn, hvars]
    simp [DataW.TrodVars]
  · exact ok_one hr rfl (okWide_bool_mk hTb _)
end Go.Proofs.Ytpafbgdbjambgaa
