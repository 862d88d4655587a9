/- texts that the claim stands on. -/
import Derived.Test.YtkpooenofjdpmaaGreatSlRfLawV11
import Derived.Laws.CopyRow
import Derived.Lib.LazyBuf
import Derived.Lib.AppendZerosOnto
import Derived.Lib.Overlaps
import Derived.Deep.AppendLies
import Derived.RangeFuncBox
import Derived.RangeFuncLeaves
import Derived.Shelf.Abstract
import Derived.OwnWalkIn
import Derived.TacticsInMore
import Derived.LoopNIn
import Derived.LoopIn
import Derived.Maps.AppendAt
set_option maxRecDepth 100000
set_option maxHeartbeats 4000000
namespace Go.Proofs.YtkpooenofjdpmaaGreat
open Go.Proofs.Tryz (prog)
open Go.RowKit
theorem dN:gT prog 22=some (99,3):=by kernel_rfl
theorem kh:ki prog 24=some (.agg #[.int .i64 0,.int .i64 0,.slice none 0 0]):=by kernel_rfl
theorem bB:jn prog 24=some true:=by kernel_rfl
theorem bd:eg prog 24=some 3:=by kernel_rfl
theorem jF:aR prog 116=true:=by kernel_rfl
theorem fp:prog.built 24 []=some #[.int .i64 0,.int .i64 0,.slice none 0 0]:=by kernel_rfl
theorem ct:kn prog 26=some (3,1,8,(.int .i64 0)):=by kernel_rfl
theorem lC:aR prog 118=true:=by kernel_rfl
theorem pd:aR prog 153=true:=by kernel_rfl
theorem dH:cP prog 24 0=some 0:=by kernel_rfl
theorem an:jn prog 3=some false:=by kernel_rfl
theorem cC:(gT prog 22).isSome=true:=by kernel_rfl
theorem kW:cP prog 24 1=some 1:=by kernel_rfl
theorem lD:aR prog 117=true:=by kernel_rfl
theorem jE:aR prog 154=true:=by kernel_rfl
theorem lB:aR prog 119=true:=by kernel_rfl
theorem gP:cP prog 99 0=some 0:=by kernel_rfl
theorem jm:cP prog 99 1=some 1:=by kernel_rfl
def fS (B p:Int) (es:List Ent):List Ent:=if p<B then es.drop (min (B-p) es.length).toNat else es
def mgP (B p:Int):Int:=if p<B then B else p
def mgQ (B T p q:Int):Int:=if p<B then T else q
def fO (B T:Int) (xs:List Ent):List Ent→List Ent
 |[]=>[]
 |e::r=>if e.i≤B+xs.length∧er B T xs e.i=e.t then fO B T xs r else e::r
def pK (B:Int) (xs:List Ent):List Ent→Nat | []=>xs.length | e::_=>(e.i-1-B).toNat
def mg2 (B T:Int) (xs ys:List Ent):Int×Bool×List Ent:=
 if 512<pK B xs ys+ys.length then (6,false,[]) else if cD B T (xs.take (pK B xs ys)++ys)=true then (0,false,xs.take (pK B xs ys)++ys) else (1,false,[])
def fv (B T p q:Int) (xs es:List Ent):Int×Bool×List Ent:=
 if cD B T xs=true∧inb 0 1099511627776 p=true∧inb 0 1099511627775 q=true∧d_ es p q=true then
  if B+xs.length<mgP B p∨¬ er B T xs (mgP B p)=mgQ B T p q then (0,true,xs) else mg2 B T xs (fO B T xs (fS B p es))
 else (1,false,[])
def xo (w w':World) (B T:Int) (r:Int×Bool×List Ent) (v:Value):Prop:=
 ∃ (X Y:Int) (A:Option Addr) (m c:Nat),v=.tuple #[.agg #[.int .i64 X,.int .i64 Y,.slice A m c],.bool r.2.1,.int .i64 r.1]∧
  (r.1≠0→X=0∧Y=0∧A=none∧m=0∧c=0)∧(r.1=0→X=B∧Y=T∧m=r.2.2.length∧w'.ownsRow w.heap.size 99 3 (.slice A m c) m (eb r.2.2))
theorem mI {w w':World} {B T:Int} {r:Int×Bool×List Ent} {c:Int} {b:Bool} (h:r=(c,b,[])) (hc:c≠0):xo w w' B T r (.tuple #[.agg #[.int .i64 0,.int .i64 0,.slice none 0 0],.bool b,.int .i64 c]):=by
 subst h;exact ⟨0,0,none,0,0,rfl,fun _=>⟨rfl,rfl,rfl,rfl,rfl⟩,fun h=>absurd h hc⟩
theorem qh {w w':World} {B T:Int} {r:Int×Bool×List Ent} {b:Bool} {ys:List Ent} {A:Option Addr} {m c:Nat} (h:r=(0,b,ys)) (hm:m=ys.length) (ho:w'.ownsRow w.heap.size 99 3 (.slice A m c) m (eb ys)):xo w w' B T r (.tuple #[.agg #[.int .i64 B,.int .i64 T,.slice A m c],.bool b,.int .i64 0]):=by
 subst h;exact ⟨B,T,A,m,c,rfl,fun h=>absurd rfl h,fun _=>⟨rfl,rfl,hm,ho⟩⟩
theorem mK (B T i:Int) (k:Nat) (A A':Option Addr) (n c m d:Nat) (xs ys:List Ent) (w:World) (h:cF w (.slice A n c) xs) (hu:cF w (.slice A' m d) ys) (hB0:0≤B) (hB1:B≤4611686018427387904) (hi:i=B+k) (hk:k≤xs.length) (hx:xs.length≤400000000000) (hy:ys.length≤400000000000) :
 Rt prog 154 [.agg #[.int .i64 B,.int .i64 T,.slice A n c],.int .i64 i,.slice A' m d] w fun v w'=>∃ A2 c2,v=.agg #[.int .i64 B,.int .i64 T,.slice A2 (k+ys.length) c2]∧w'.ownsRow w.heap.size 99 3 (.slice A2 (k+ys.length) c2) (k+ys.length) (eb (xs.take k++ys))∧ai w w':=by
 subst hi;exact Calls.mono (oA B T k _ _ xs ys w h hu hB0 hB1 hk hx hy) fun e w' ⟨v',he,ho,hF⟩=>⟨_,he,by obtain ⟨A2,c2,rfl⟩:=fL ho;exact ⟨A2,c2,rfl,ho,hF⟩⟩
theorem vK {w:World} {b o:Nat} {x y z:Value} (h0:w.cell? ⟨b,o,none⟩=some x) (h1:w.cell? ⟨b,o+1,none⟩=some y) (h2:w.cell? ⟨b,o+2,none⟩=some z):w.rangeAt b o [x,y,z]:=fun j v hv=>by
 match j,hv with
 |0,hv=>cases hv;exact h0
 |1,hv=>cases hv;exact h1
 |2,hv=>cases hv;exact h2
theorem cF.head {w:World} {A:Option Addr} {n c:Nat} {e:Ent} {r:List Ent} (h:cF w (.slice A n c) (e::r)):∃ b o,A=some ⟨b,o,none⟩∧w.rangeAt b o [.int .i64 e.i,.int .i64 e.t,.string e.d]:=by
 obtain ⟨A',c',hv,_,_,_,hp⟩:=h;simp only [Value.slice.injEq] at hv;obtain ⟨rfl,_,_⟩:=hv;obtain ⟨b,o,hA,_,hc⟩:=hp (by simp);have:=hc 0 (by simp);simp only [Nat.zero_mul,Nat.add_zero,List.getElem_cons_zero] at this;exact ⟨b,o,hA,vK this.1 this.2.1 this.2.2⟩
theorem cF.len {w:World} {A:Option Addr} {n c:Nat} {xs:List Ent} (h:cF w (.slice A n c) xs):n=xs.length∧xs.length≤c:=by
 obtain ⟨A',c',hv,h1,_⟩:=h;simp only [Value.slice.injEq] at hv;obtain ⟨_,rfl,rfl⟩:=hv;exact ⟨rfl,h1⟩
theorem ra {B p q:Int} {es:List Ent} (_:0≤B) (h:d_ es p q=true) (hq:inb 0 1099511627775 q=true):∃ t,d_ (fS B p es) (mgP B p) t=true:=by
 unfold fS mgP;split
 ·rename_i hp;by_cases hl:B-p≤es.length
  ·have:=(px es (B-p).toNat p q (by omega) h hq).1;rw [show p+(((B-p).toNat:Nat):Int)=B by omega] at this;rw [show min (B-p) (es.length:Int)=B-p by omega];exact ⟨_,this⟩
  ·rw [show (min (B-p) (es.length:Int)).toNat=es.length by omega,List.drop_length];exact ⟨0,rfl⟩
 ·exact ⟨q,h⟩
theorem fZ {e:Ent} {r:List Ent} {p t:Int} (h:d_ (e::r) p t=true):e.i=p+1∧d_ r (p+1) e.t=true:=by
 simp only [d_,gp,Bool.and_eq_true,decide_eq_true_eq] at h;exact ⟨h.1.1.1.1,h.2⟩
theorem uS (B T:Int) (A:Option Addr) (n c:Nat) (xs:List Ent) (w:World) (h:cF w (.slice A n c) xs) (hl:dP B xs=B+xs.length) :
 Rt prog 117 [.agg #[.int .i64 B,.int .i64 T,.slice A n c]] w fun v w'=>v=.tuple #[.int .i64 (B+xs.length),.int .i64 (dp T xs)]∧ai w w':=
 Rt.mono (Rt.of (gZ B T _ xs w h)) fun v w' h=>⟨by rw [h.1,hl],h.2⟩
theorem jv {B T:Int} {xs:List Ent} {e:Ent} {r:List Ent} (h:¬ (e.i≤B+xs.length∧er B T xs e.i=e.t)):fO B T xs (e::r)=e::r:=by
 unfold fO;rw [if_neg h]
theorem pJ {B T:Int} {xs:List Ent} {e:Ent} {r:List Ent} (h:e.i≤B+xs.length∧er B T xs e.i=e.t):fO B T xs (e::r)=fO B T xs r:=by
 rw [fO,if_pos h]
theorem we (B T p q : Int) (A U : Option Addr) (cA cU : Nat) (xs es : List Ent) (w : World) (h : cF w (.slice A xs.length cA) xs) (he : cF w (.slice U es.length cU) es) (hel : es.length ≤ 400000000000) :
    Rt prog 162 [.agg #[.int .i64 B, .int .i64 T, .slice A xs.length cA], .int .i64 p, .int .i64 q, .slice U es.length cU] w (fun v w' => xo w w' B T (fv B T p q xs es) v ∧ ai w w') := by
  refine enter (n := 123) Tryz.func162 rfl rfl rfl ?_
  refine ak (ag ?_)
  refine bZ (v := .agg _) rfl ?_
  intro b4 w1 E4 hb4 hk4
  have hl4 := hk4.lt
  refine cf kh ?_
  intro b8 w2 E8 hb8 hk8
  replace hk4 := hk4.from_ E8
  have hg8 : w.heap.size ≤ b8 := by rw [hb8]; exact E4.size
  have h48 : b4 < b8 := by omega
  refine asb rfl ?_
  refine asi rfl ?_
  refine aj (af (ak (ak (ag ?_))))
  refine ab (aG (cs := [_, _, _]) bB bd rfl (by first | (first | exact (hk4.from_ ai.rfl_).whole | exact (hk4.from_ ai.rfl_).rd 0 rfl | exact (hk4.from_ ai.rfl_).rd 1 rfl | exact (hk4.from_ ai.rfl_).rd 2 rfl))) ?_
  refine aB jF (Rt.of (g_ B T _ xs _ (h.from_ ((ai.rfl_.next E4).next E8)))) ?_
  rintro v14 w3 ⟨rfl, E14⟩
  refine ab (dG rfl rfl) ?_
  refine mvb rfl ?_
  refine aF (t := 16) rfl (fun Q4 => ?_) (fun Q4 => ?_)
  · replace Q4 := dw Q4; replace Q4 := ee Q4
    have hbad : ¬ (cD B T xs = true ∧ inb 0 1099511627776 p = true ∧ inb 0 1099511627775 q = true ∧ d_ es p q = true) := fun h0 => Q4 (by unfold chk; rw [if_pos h0.1])
    refine ao rfl rfl ?_
    refine ao rfl rfl ?_
    refine ao rfl rfl ?_
    refine ao rfl rfl ?_
    refine ab (aJ (v := .bool _) rfl rfl) ?_
    refine mvb rfl ?_
    refine ao rfl rfl ?_
    refine ao rfl rfl ?_
    refine ao rfl rfl ?_
    refine ao rfl rfl ?_
    refine ab (aJ (v := .bool _) rfl rfl) ?_
    refine mvb rfl ?_
    refine ao rfl rfl ?_
    refine ao rfl rfl ?_
    refine ao rfl rfl ?_
    refine ao rfl rfl ?_
    refine ao rfl rfl ?_
    refine ab (aJ (v := .bool _) rfl rfl) ?_
    refine aj (af ?_)
    refine aL rfl ?_
    refine ak (ag ?_)
    refine ab (cp (l := []) (fp)) ?_
    refine b0 (vs := [_, _, _]) bd rfl rfl (by simp [Value.oneCell']) (hk8.from_ (ai.rfl_.next E14)) rfl ?_
    intro w5 O2 P2
    refine asb rfl ?_
    refine asi rfl ?_
    refine aj (af (aC (az ?_)))
    refine jK rfl (cX (cs := [_, _, _]) bB bd rfl (by first | exact P2.whole | exact P8.whole | exact P14.whole | exact P17.whole | exact P18.whole)) (dV (v := .bool _) rfl) (dV (v := .int _ _) rfl) ?_
    exact ⟨mI (by unfold fv; rw [if_neg hbad]) (by decide), ((((ai.rfl_.next E4).next E8).next E14).only O2 (hg8))⟩
  replace Q4 := dy Q4; replace Q4 := ed Q4
  have hm : cD B T xs = true := by
    cases hm : cD B T xs with
    | true => rfl
    | false => unfold chk at Q4; rw [hm] at Q4; cases Q4
  obtain ⟨hl, hB0, hB1, hx⟩ := fT hm
  refine ae rfl ?_
  refine mvi rfl ?_
  refine ae rfl ?_
  refine fb (v := .int _ _) ct rfl rfl rfl ?_
  intro b18 w6 E18 hb18 hk18
  refine ae rfl ?_
  refine aB lC (pf _ _ _ _ _ hk18) ?_
  rintro v19 w7 ⟨rfl, E19⟩
  refine ae rfl ?_
  refine ab (cl rfl) ?_
  refine ab (aw (v := .bool _) rfl rfl) ?_
  refine mvb rfl ?_
  refine aF (t := 22) rfl (fun Q8 => ?_) (fun Q8 => ?_)
  · replace Q8 := dw Q8
    have hbad : ¬ (cD B T xs = true ∧ inb 0 1099511627776 p = true ∧ inb 0 1099511627775 q = true ∧ d_ es p q = true) := fun h0 => by rw [h0.2.1] at Q8; cases Q8
    refine ao rfl rfl ?_
    refine ao rfl rfl ?_
    refine ao rfl rfl ?_
    refine ao rfl rfl ?_
    refine ab (aJ (v := .bool _) rfl rfl) ?_
    refine mvb rfl ?_
    refine ao rfl rfl ?_
    refine ao rfl rfl ?_
    refine ao rfl rfl ?_
    refine ao rfl rfl ?_
    refine ao rfl rfl ?_
    refine ab (aJ (v := .bool _) rfl rfl) ?_
    refine aj (af ?_)
    refine aL rfl ?_
    refine ak (ag ?_)
    refine ab (cp (l := []) (fp)) ?_
    refine b0 (vs := [_, _, _]) bd rfl rfl (by simp [Value.oneCell']) (hk8.from_ (((ai.rfl_.next E14).next E18).next E19)) rfl ?_
    intro w9 O2 P2
    refine asb rfl ?_
    refine asi rfl ?_
    refine aj (af (aC (az ?_)))
    refine jK rfl (cX (cs := [_, _, _]) bB bd rfl (by first | exact P2.whole | exact P8.whole | exact P14.whole | exact P17.whole | exact P18.whole)) (dV (v := .bool _) rfl) (dV (v := .int _ _) rfl) ?_
    exact ⟨mI (by unfold fv; rw [if_neg hbad]) (by decide), ((((((ai.rfl_.next E4).next E8).next E14).next E18).next E19).only O2 (hg8))⟩
  replace Q8 := dy Q8
  have hPv := Q8
  have hpb := dv Q8
  refine ae rfl ?_
  refine mvi rfl ?_
  refine ae rfl ?_
  refine fb (v := .int _ _) ct rfl rfl rfl ?_
  intro b24 w10 E24 hb24 hk24
  refine ae rfl ?_
  refine aB lC (pf _ _ _ _ _ hk24) ?_
  rintro v25 w11 ⟨rfl, E25⟩
  refine ae rfl ?_
  refine ab (cl rfl) ?_
  refine ab (aw (v := .bool _) rfl rfl) ?_
  refine mvb rfl ?_
  refine aF (t := 28) rfl (fun Q12 => ?_) (fun Q12 => ?_)
  · replace Q12 := dw Q12
    have hbad : ¬ (cD B T xs = true ∧ inb 0 1099511627776 p = true ∧ inb 0 1099511627775 q = true ∧ d_ es p q = true) := fun h0 => by rw [h0.2.2.1] at Q12; cases Q12
    refine ao rfl rfl ?_
    refine ao rfl rfl ?_
    refine ao rfl rfl ?_
    refine ao rfl rfl ?_
    refine ao rfl rfl ?_
    refine ab (aJ (v := .bool _) rfl rfl) ?_
    refine aj (af ?_)
    refine aL rfl ?_
    refine ak (ag ?_)
    refine ab (cp (l := []) (fp)) ?_
    refine b0 (vs := [_, _, _]) bd rfl rfl (by simp [Value.oneCell']) (hk8.from_ (((((ai.rfl_.next E14).next E18).next E19).next E24).next E25)) rfl ?_
    intro w13 O2 P2
    refine asb rfl ?_
    refine asi rfl ?_
    refine aj (af (aC (az ?_)))
    refine jK rfl (cX (cs := [_, _, _]) bB bd rfl (by first | exact P2.whole | exact P8.whole | exact P14.whole | exact P17.whole | exact P18.whole)) (dV (v := .bool _) rfl) (dV (v := .int _ _) rfl) ?_
    exact ⟨mI (by unfold fv; rw [if_neg hbad]) (by decide), ((((((((ai.rfl_.next E4).next E8).next E14).next E18).next E19).next E24).next E25).only O2 (hg8))⟩
  replace Q12 := dy Q12
  have hQv := Q12
  have hqb := dv Q12
  refine ae rfl ?_
  refine mvi rfl ?_
  refine ae rfl ?_
  refine mvi rfl ?_
  refine ae rfl ?_
  refine mvs rfl ?_
  refine ae rfl ?_
  refine aB pd (Rt.of (kb p q _ es _ (he.from_ (((((((ai.rfl_.next E4).next E8).next E14).next E18).next E19).next E24).next E25)) (by omega) (by omega) (by omega) (by omega))) ?_
  rintro v32 w14 ⟨rfl, E32⟩
  refine ae rfl ?_
  refine ab (cl rfl) ?_
  refine ab (aw (v := .bool _) rfl rfl) ?_
  refine aj (af ?_)
  refine aU rfl (fun Q15 => ?_) (fun Q15 => ?_)
  · replace Q15 := dw Q15
    have hbad : ¬ (cD B T xs = true ∧ inb 0 1099511627776 p = true ∧ inb 0 1099511627775 q = true ∧ d_ es p q = true) := fun h0 => by rw [h0.2.2.2] at Q15; cases Q15
    refine ak (ag ?_)
    refine ab (cp (l := []) (fp)) ?_
    refine b0 (vs := [_, _, _]) bd rfl rfl (by simp [Value.oneCell']) (hk8.from_ ((((((ai.rfl_.next E14).next E18).next E19).next E24).next E25).next E32)) rfl ?_
    intro w16 O2 P2
    refine asb rfl ?_
    refine asi rfl ?_
    refine aj (af (aC (az ?_)))
    refine jK rfl (cX (cs := [_, _, _]) bB bd rfl (by first | exact P2.whole | exact P8.whole | exact P14.whole | exact P17.whole | exact P18.whole)) (dV (v := .bool _) rfl) (dV (v := .int _ _) rfl) ?_
    exact ⟨mI (by unfold fv; rw [if_neg hbad]) (by decide), (((((((((ai.rfl_.next E4).next E8).next E14).next E18).next E19).next E24).next E25).next E32).only O2 (hg8))⟩
  replace Q15 := dy Q15
  have hR := Q15
  refine aM (af ?_)
  refine iz (G := Int × Int × List Ent × Option Addr × Nat × Nat) [36, 37, 38, 39, 40, 41, 42, 43, 44, 45, 46, 47, 48, 49, 50, 51, 52] (fun (P, Q, ys, A3, n3, c3) => [(1, .int .i64 P), (2, .int .i64 Q), (3, .slice A3 n3 c3)]) (fun (P, Q, ys, A3, n3, c3) w' => P = mgP B p ∧ Q = mgQ B T p q ∧ ys = fS B p es ∧ n3 = ys.length ∧ cF w' (.slice A3 n3 c3) ys ∧ Blk w' b4 24 #[.int .i64 B, .int .i64 T, .slice A xs.length cA] ∧ Blk w' b8 24 #[.int .i64 0, .int .i64 0, .slice none 0 0] ∧ ai w w') ?_ ?_
  · refine ak (ag ?_)
    refine mvi rfl ?_
    refine ab (aa dH rfl) ?_
    refine ab (aq an rfl (by first | (first | exact (hk4.from_ ((((((ai.rfl_.next E14).next E18).next E19).next E24).next E25).next E32)).whole | exact (hk4.from_ ((((((ai.rfl_.next E14).next E18).next E19).next E24).next E25).next E32)).rd 0 rfl | exact (hk4.from_ ((((((ai.rfl_.next E14).next E18).next E19).next E24).next E25).next E32)).rd 1 rfl | exact (hk4.from_ ((((((ai.rfl_.next E14).next E18).next E19).next E24).next E25).next E32)).rd 2 rfl))) ?_
    refine ab (b_ rfl rfl) ?_
    refine aj (af ?_)
    refine aU rfl (fun Q17 => ?_) (fun Q17 => ?_)
    · replace Q17 := dT_ Q17
      have hlt := Q17
      refine ak (ag ?_)
      refine mvs rfl ?_
      refine ab (aa dH rfl) ?_
      refine ab (aq an rfl (by first | (first | exact (hk4.from_ ((((((ai.rfl_.next E14).next E18).next E19).next E24).next E25).next E32)).whole | exact (hk4.from_ ((((((ai.rfl_.next E14).next E18).next E19).next E24).next E25).next E32)).rd 0 rfl | exact (hk4.from_ ((((((ai.rfl_.next E14).next E18).next E19).next E24).next E25).next E32)).rd 1 rfl | exact (hk4.from_ ((((((ai.rfl_.next E14).next E18).next E19).next E24).next E25).next E32)).rd 2 rfl))) ?_
      refine mvi rfl ?_
      refine ab (eA rfl rfl (by omega)) ?_
      refine mvs rfl ?_
      refine ab (bW cC rfl) ?_
      refine ab (lH rfl rfl) ?_
      refine ab (pA (l := (min (B - p) es.length).toNat) dN rfl (.inr ⟨_, _, _, rfl, rfl, (by omega)⟩) (.inl ⟨rfl, rfl⟩) (by omega) (by have := he.len; omega)) ?_
      refine ass rfl ?_
      refine aj (af ?_)
      apply kL 6 [(49, eqp _), (50, eqp _), (51, eqp _), (52, eqp _), (1, eqp _), (2, eqp _)] (by kernel_rfl) (by kernel_rfl) ⟨ah _, ah _, ah _, ah _, ah _, ah _, trivial⟩
      case hop =>
       refine ⟨?_, ?_⟩
       · intro w19 D19
         show av ..
         exact ar (aa dH rfl) rfl
       refine ⟨?_, ?_⟩
       · intro w20 D20
         rintro _ rfl
         show av ..
         exact ar (aq an rfl (by first | (first | exact (hk4.from_ (((((((ai.rfl_.next E14).next E18).next E19).next E24).next E25).next E32).next D20)).whole | exact (hk4.from_ (((((((ai.rfl_.next E14).next E18).next E19).next E24).next E25).next E32).next D20)).rd 0 rfl | exact (hk4.from_ (((((((ai.rfl_.next E14).next E18).next E19).next E24).next E25).next E32).next D20)).rd 1 rfl | exact (hk4.from_ (((((((ai.rfl_.next E14).next E18).next E19).next E24).next E25).next E32).next D20)).rd 2 rfl))) rfl
       refine ⟨?_, ?_⟩
       · intro w21 D21
         show av ..
         exact ar (aa kW rfl) rfl
       refine ⟨?_, ?_⟩
       · intro w22 D22
         rintro _ rfl
         show av ..
         exact ar (aq an rfl (by first | (first | exact (hk4.from_ (((((((ai.rfl_.next E14).next E18).next E19).next E24).next E25).next E32).next D22)).whole | exact (hk4.from_ (((((((ai.rfl_.next E14).next E18).next E19).next E24).next E25).next E32).next D22)).rd 0 rfl | exact (hk4.from_ (((((((ai.rfl_.next E14).next E18).next E19).next E24).next E25).next E32).next D22)).rd 1 rfl | exact (hk4.from_ (((((((ai.rfl_.next E14).next E18).next E19).next E24).next E25).next E32).next D22)).rd 2 rfl))) rfl
       refine ⟨?_, ?_⟩
       · intro w23 D23
         rintro _ rfl
         show av ..
         exact ar (cy (v := .int _ _) rfl) rfl
       refine ⟨?_, ?_⟩
       · intro w24 D24
         rintro _ rfl
         show av ..
         exact ar (cy (v := .int _ _) rfl) rfl
       exact trivial
      case hend =>
       intro w25 D25
       rintro _ rfl _ rfl _ rfl _ rfl _ rfl _ rfl
       show St ..
       refine aj ?_
       refine cu ((_, _, fS B p es, _, _, _)) ⟨rfl, rfl, rfl, trivial⟩ (by (iterate 20 refine bI rfl ?_); exact bU) ?_
       first
         | exact ⟨by unfold mgP; rw [if_pos hlt], by unfold mgQ; rw [if_pos hlt], rfl, by unfold fS; rw [if_pos hlt, List.length_drop], by unfold fS; rw [if_pos hlt]; exact (he.from_ (((((((((ai.rfl_.next E4).next E8).next E14).next E18).next E19).next E24).next E25).next E32).next D25)).restA (by omega), hk4.from_ (((((((ai.rfl_.next E14).next E18).next E19).next E24).next E25).next E32).next D25), hk8.from_ (((((((ai.rfl_.next E14).next E18).next E19).next E24).next E25).next E32).next D25), (((((((((ai.rfl_.next E4).next E8).next E14).next E18).next E19).next E24).next E25).next E32).next D25)⟩
         | exact ⟨by unfold mgP; rw [if_neg hlt], by unfold mgQ; rw [if_neg hlt], rfl, by unfold fS; rw [if_neg hlt], by unfold fS; rw [if_neg hlt]; exact he.from_ (((((((((ai.rfl_.next E4).next E8).next E14).next E18).next E19).next E24).next E25).next E32).next D25), hk4.from_ (((((((ai.rfl_.next E14).next E18).next E19).next E24).next E25).next E32).next D25), hk8.from_ (((((((ai.rfl_.next E14).next E18).next E19).next E24).next E25).next E32).next D25), (((((((((ai.rfl_.next E4).next E8).next E14).next E18).next E19).next E24).next E25).next E32).next D25)⟩
    replace Q17 := dF_ Q17
    have hlt := Q17
    refine aM ?_
    refine cu ((_, _, fS B p es, _, _, _)) ⟨rfl, rfl, rfl, trivial⟩ (by (iterate 4 refine bI rfl ?_); exact bU) ?_
    first
      | exact ⟨by unfold mgP; rw [if_pos hlt], by unfold mgQ; rw [if_pos hlt], rfl, by unfold fS; rw [if_pos hlt, List.length_drop], by unfold fS; rw [if_pos hlt]; exact (he.from_ ((((((((ai.rfl_.next E4).next E8).next E14).next E18).next E19).next E24).next E25).next E32)).restA (by omega), hk4.from_ ((((((ai.rfl_.next E14).next E18).next E19).next E24).next E25).next E32), hk8.from_ ((((((ai.rfl_.next E14).next E18).next E19).next E24).next E25).next E32), ((((((((ai.rfl_.next E4).next E8).next E14).next E18).next E19).next E24).next E25).next E32)⟩
      | exact ⟨by unfold mgP; rw [if_neg hlt], by unfold mgQ; rw [if_neg hlt], rfl, by unfold fS; rw [if_neg hlt], by unfold fS; rw [if_neg hlt]; exact he.from_ ((((((((ai.rfl_.next E4).next E8).next E14).next E18).next E19).next E24).next E25).next E32), hk4.from_ ((((((ai.rfl_.next E14).next E18).next E19).next E24).next E25).next E32), hk8.from_ ((((((ai.rfl_.next E14).next E18).next E19).next E24).next E25).next E32), ((((((((ai.rfl_.next E4).next E8).next E14).next E18).next E19).next E24).next E25).next E32)⟩
  rintro ⟨P, Q, ys, A3, n3, c3⟩ ρ26 w26 ⟨hP6, hQ6, hys6, rfl, hes, hk4, hk8, hB⟩
  have hPB : B ≤ P := by rw [hP6]; unfold mgP; split <;> omega
  obtain ⟨t6, hrun6⟩ : ∃ t, d_ ys P t = true := by rw [hP6, hys6]; exact ra hB0 hR hQv
  have hy6 : ys.length ≤ es.length := by rw [hys6]; unfold fS; split <;> simp
  refine ak (ag ?_)
  refine ab (aG (cs := [_, _, _]) bB bd rfl (by first | (first | exact (hk4.from_ ai.rfl_).whole | exact (hk4.from_ ai.rfl_).rd 0 rfl | exact (hk4.from_ ai.rfl_).rd 1 rfl | exact (hk4.from_ ai.rfl_).rd 2 rfl))) ?_
  refine aB lD (uS B T A _ cA xs _ (h.from_ hB) hl) ?_
  rintro v55 w27 ⟨rfl, E55⟩
  refine mvt rfl ?_
  refine ab (aY rfl rfl) ?_
  refine ab (aY rfl rfl) ?_
  refine asi rfl ?_
  refine asi rfl ?_
  refine aj (af (ak (ak (ag ?_))))
  refine mvi rfl ?_
  refine mvi rfl ?_
  refine ab (bS rfl rfl) ?_
  refine mvb rfl ?_
  refine aF (t := 61) rfl (fun Q28 => ?_) (fun Q28 => ?_)
  · replace Q28 := dT_ Q28
    have hms : B + (xs.length : Int) < mgP B p ∨ ¬ er B T xs (mgP B p) = mgQ B T p q := .inl (by rw [← hP6]; exact Q28)
    refine ao rfl rfl ?_
    refine ao rfl rfl ?_
    refine ao rfl rfl ?_
    refine ao rfl rfl ?_
    refine ao rfl rfl ?_
    refine ab (aJ (v := .bool _) rfl rfl) ?_
    refine aj (af ?_)
    refine aL rfl ?_
    refine ak (ag ?_)
    refine ab (aG (cs := [_, _, _]) bB bd rfl (by first | (first | exact (hk4.from_ (ai.rfl_.next E55)).whole | exact (hk4.from_ (ai.rfl_.next E55)).rd 0 rfl | exact (hk4.from_ (ai.rfl_.next E55)).rd 1 rfl | exact (hk4.from_ (ai.rfl_.next E55)).rd 2 rfl))) ?_
    refine mvi rfl ?_
    have hb70 := (hk8.from_ (ai.rfl_.next E55)).lt
    refine aB jE (mK B T _ xs.length A none _ cA 0 0 xs [] _ (h.from_ (hB.next E55)) (cF.nil_ _) hB0 (by omega) rfl (Nat.le_refl _) (by omega) (by simp)) ?_
    rintro v70 w29 ⟨A70, c70, rfl, ho70, E70⟩
    refine b0 (vs := [_, _, _]) bd rfl rfl (by simp [Value.oneCell']) (hk8.from_ ((ai.rfl_.next E55).next E70)) rfl ?_
    intro w30 O8 P8
    refine asb rfl ?_
    refine asi rfl ?_
    refine aj (af (aC (az ?_)))
    refine jK rfl (cX (cs := [_, _, _]) bB bd rfl (by first | exact P2.whole | exact P8.whole | exact P14.whole | exact P17.whole | exact P18.whole)) (dV (v := .bool _) rfl) (dV (v := .int _ _) rfl) ?_
    refine ⟨qh (ys := xs.take xs.length ++ []) (by unfold fv; rw [if_pos ⟨hm, hPv, hQv, hR⟩, if_pos hms]; simp) (by simp) (fD (kC ho70 O8 hb70) (by omega)), (((hB.next E55).next E70).only O8 (hg8))⟩
  replace Q28 := dF_ Q28
  have hPL : P ≤ B + (xs.length : Int) := by omega
  refine ae rfl ?_
  refine ab (aG (cs := [_, _, _]) bB bd rfl (by first | (first | exact (hk4.from_ (ai.rfl_.next E55)).whole | exact (hk4.from_ (ai.rfl_.next E55)).rd 0 rfl | exact (hk4.from_ (ai.rfl_.next E55)).rd 1 rfl | exact (hk4.from_ (ai.rfl_.next E55)).rd 2 rfl))) ?_
  refine ae rfl ?_
  refine mvi rfl ?_
  refine ae rfl ?_
  refine aB lB (Rt.of (lE B T P _ xs _ (h.from_ (hB.next E55)) hB0 (by omega) hPB (by omega) (by omega))) ?_
  rintro v64 w31 ⟨rfl, E64⟩
  refine ae rfl ?_
  refine mvi rfl ?_
  refine ae rfl ?_
  refine ab (dG rfl rfl) ?_
  refine ab (aw (v := .bool _) rfl rfl) ?_
  refine aj (af ?_)
  refine aU rfl (fun Q32 => ?_) (fun Q32 => ?_)
  · replace Q32 := dw Q32; replace Q32 := ee Q32
    have hms : B + (xs.length : Int) < mgP B p ∨ ¬ er B T xs (mgP B p) = mgQ B T p q := .inr (by rw [← hP6, ← hQ6]; exact Q32)
    refine ak (ag ?_)
    refine ab (aG (cs := [_, _, _]) bB bd rfl (by first | (first | exact (hk4.from_ ((ai.rfl_.next E55).next E64)).whole | exact (hk4.from_ ((ai.rfl_.next E55).next E64)).rd 0 rfl | exact (hk4.from_ ((ai.rfl_.next E55).next E64)).rd 1 rfl | exact (hk4.from_ ((ai.rfl_.next E55).next E64)).rd 2 rfl))) ?_
    refine mvi rfl ?_
    have hb70 := (hk8.from_ ((ai.rfl_.next E55).next E64)).lt
    refine aB jE (mK B T _ xs.length A none _ cA 0 0 xs [] _ (h.from_ ((hB.next E55).next E64)) (cF.nil_ _) hB0 (by omega) rfl (Nat.le_refl _) (by omega) (by simp)) ?_
    rintro v70 w33 ⟨A70, c70, rfl, ho70, E70⟩
    refine b0 (vs := [_, _, _]) bd rfl rfl (by simp [Value.oneCell']) (hk8.from_ (((ai.rfl_.next E55).next E64).next E70)) rfl ?_
    intro w34 O8 P8
    refine asb rfl ?_
    refine asi rfl ?_
    refine aj (af (aC (az ?_)))
    refine jK rfl (cX (cs := [_, _, _]) bB bd rfl (by first | exact P2.whole | exact P8.whole | exact P14.whole | exact P17.whole | exact P18.whole)) (dV (v := .bool _) rfl) (dV (v := .int _ _) rfl) ?_
    refine ⟨qh (ys := xs.take xs.length ++ []) (by unfold fv; rw [if_pos ⟨hm, hPv, hQv, hR⟩, if_pos hms]; simp) (by simp) (fD (kC ho70 O8 hb70) (by omega)), ((((hB.next E55).next E64).next E70).only O8 (hg8))⟩
  replace Q32 := dy Q32; replace Q32 := ed Q32
  have hnm : ¬ (B + (xs.length : Int) < mgP B p ∨ ¬ er B T xs (mgP B p) = mgQ B T p q) := by rw [← hP6, ← hQ6]; exact fun h0 => h0.elim (fun h1 => by omega) (fun h1 => h1 Q32)
  refine aM (af ?_)
  refine iz (G := List Ent × Option Addr × Nat) [71, 72, 73, 74, 75, 76, 77, 78, 79, 80, 81, 82, 83, 84, 85, 86, 87, 88, 89, 90, 91, 92, 93, 94, 95, 96] (fun (ys, A4, c4) => [(3, .slice A4 ys.length c4)]) (fun (ys, A4, c4) w' => cF w' (.slice A4 ys.length c4) ys ∧ ys = fO B T xs (fS B p es) ∧ (∀ e r, ys = e :: r → B + 1 ≤ e.i ∧ e.i ≤ B + xs.length + 1) ∧ ys.length ≤ es.length ∧ Blk w' b4 24 #[.int .i64 B, .int .i64 T, .slice A xs.length cA] ∧ Blk w' b8 24 #[.int .i64 0, .int .i64 0, .slice none 0 0] ∧ ai w w') ?_ ?_
  · refine bg ?_
    refine dd (G := List Ent × Option Addr × Nat × Int × Int) [71, 72, 73, 74, 75, 76, 77, 78, 79, 80, 81, 82, 83, 84, 85, 86, 87, 88, 89, 90, 91, 92, 93, 94, 95, 96] (fun (zs, A4, c4, p', t') => [(3, .slice A4 zs.length c4)]) (fun (zs, A4, c4, p', t') w' => cF w' (.slice A4 zs.length c4) zs ∧ fO B T xs zs = fO B T xs ys ∧ d_ zs p' t' = true ∧ B ≤ p' ∧ p' ≤ B + xs.length ∧ zs.length ≤ es.length ∧ Blk w' b4 24 #[.int .i64 B, .int .i64 T, .slice A xs.length cA] ∧ Blk w' b8 24 #[.int .i64 0, .int .i64 0, .slice none 0 0] ∧ ai w w') (fun (zs, A4, c4, p', t') => zs.length) ((ys, A3, c3, P, t6)) ⟨rfl, trivial⟩ ?_ ?_
    · exact ⟨hes.from_ ((ai.rfl_.next E55).next E64), rfl, hrun6, hPB, hPL, hy6, hk4.from_ ((ai.rfl_.next E55).next E64), hk8.from_ ((ai.rfl_.next E55).next E64), ((hB.next E55).next E64)⟩
    rintro ⟨zs, A4, c4, p', t'⟩ ρ35 w35 ⟨hzs, hsk, hrun, hpB, hpL, hzl, hk4, hk8, hB⟩
    refine ak (ak ?_)
    have hcases : zs = [] ∨ (∃ e r, zs = e :: r ∧ ¬ e.i ≤ B + xs.length) ∨ (∃ e r, zs = e :: r ∧ e.i ≤ B + xs.length) := by
      cases zs with
      | nil => exact .inl rfl
      | cons e r => by_cases h1 : e.i ≤ B + xs.length
                    · exact .inr (.inr ⟨e, r, rfl, h1⟩)
                    · exact .inr (.inl ⟨e, r, rfl, h1⟩)
    rcases hcases with rfl | ⟨e, r, rfl, h1⟩ | ⟨e, r, rfl, h1⟩
    · have hfin := hsk.trans (congrArg _ hys6)
      apply kL 24 [(71, eqp _), (72, eqp _), (73, eqp _), (74, eqp _), (75, eqp _), (76, eqp _), (77, eqp _), (78, eqp _), (79, eqp _), (80, eqp _), (81, eqp _), (82, eqp _), (83, eqp _), (84, eqp _), (85, eqp _), (86, eqp _), (87, eqp _), (88, eqp _), (89, eqp _), (90, eqp _), (91, eqp _), (92, eqp _), (93, eqp _), (94, eqp _)] (by kernel_rfl) (by kernel_rfl) ⟨ah _, ah _, ah _, ah _, ah _, ah _, ah _, ah _, ah _, ah _, ah _, ah _, ah _, ah _, ah _, ah _, ah _, ah _, ah _, ah _, ah _, ah _, ah _, ah _, trivial⟩
      case hop =>
       refine ⟨?_, ?_⟩
       · intro w37 D37
         show av ..
         exact ar (aH (v := .slice _ _ _) rfl) rfl
       refine ⟨?_, ?_⟩
       · intro w38 D38
         rintro _ rfl
         show av ..
         exact ar (bW cC rfl) rfl
       refine ⟨?_, ?_⟩
       · intro w39 D39
         rintro _ rfl
         show av ..
         exact ar (cJ (bS rfl rfl) (by simp)) rfl
       refine ⟨?_, ?_⟩
       · intro w40 D40
         rintro _ rfl
         show av ..
         exact ar (aH (v := .bool _) rfl) rfl
       refine ⟨?_, ?_⟩
       · intro w41 D41
         rintro _ rfl
         show av ..
         exact bJ rfl rfl rfl
       refine ⟨?_, ?_⟩
       · intro w42 D42
         rintro _ rfl _ rfl
         show av ..
         exact bJ rfl rfl rfl
       refine ⟨?_, ?_⟩
       · intro w43 D43
         rintro _ rfl _ rfl
         show av ..
         exact bJ rfl rfl rfl
       refine ⟨?_, ?_⟩
       · intro w44 D44
         rintro _ rfl _ rfl
         show av ..
         exact bJ rfl rfl rfl
       refine ⟨?_, ?_⟩
       · intro w45 D45
         rintro _ rfl
         show av ..
         exact bJ rfl rfl rfl
       refine ⟨?_, ?_⟩
       · intro w46 D46
         rintro _ rfl _ rfl _ rfl
         show av ..
         exact bJ rfl rfl rfl
       refine ⟨?_, ?_⟩
       · intro w47 D47
         rintro _ rfl _ rfl
         show av ..
         exact ar (aw (v := .bool _) rfl rfl) rfl
       refine ⟨?_, ?_⟩
       · intro w48 D48
         rintro _ rfl
         show av ..
         exact ar (aH (v := .bool _) rfl) rfl
       refine ⟨?_, ?_⟩
       · intro w49 D49
         rintro _ rfl
         show av ..
         exact bJ rfl rfl rfl
       refine ⟨?_, ?_⟩
       · intro w50 D50
         rintro _ rfl
         show av ..
         exact bJ rfl rfl rfl
       refine ⟨?_, ?_⟩
       · intro w51 D51
         rintro _ rfl _ rfl
         show av ..
         exact bJ rfl rfl rfl
       refine ⟨?_, ?_⟩
       · intro w52 D52
         rintro _ rfl _ rfl
         show av ..
         exact bJ rfl rfl rfl
       refine ⟨?_, ?_⟩
       · intro w53 D53
         rintro _ rfl _ rfl
         show av ..
         exact bJ rfl rfl rfl
       refine ⟨?_, ?_⟩
       · intro w54 D54
         rintro _ rfl _ rfl _ rfl
         show av ..
         exact bJ rfl rfl rfl
       refine ⟨?_, ?_⟩
       · intro w55 D55
         rintro _ rfl
         show av ..
         exact bJ rfl rfl rfl
       refine ⟨?_, ?_⟩
       · intro w56 D56
         rintro _ rfl _ rfl
         show av ..
         exact bJ rfl rfl rfl
       refine ⟨?_, ?_⟩
       · intro w57 D57
         rintro _ rfl _ rfl
         show av ..
         exact bJ rfl rfl rfl
       refine ⟨?_, ?_⟩
       · intro w58 D58
         rintro _ rfl _ rfl
         show av ..
         exact bJ rfl rfl rfl
       refine ⟨?_, ?_⟩
       · intro w59 D59
         rintro _ rfl _ rfl _ rfl
         show av ..
         exact bJ rfl rfl rfl
       refine ⟨?_, ?_⟩
       · intro w60 D60
         rintro _ rfl _ rfl
         show av ..
         exact ar (aw (v := .bool _) rfl rfl) rfl
       exact trivial
      case hend =>
       intro w61 D61
       rintro _ rfl _ rfl _ rfl _ rfl _ rfl _ rfl _ rfl _ rfl _ rfl _ rfl _ rfl _ rfl _ rfl _ rfl _ rfl _ rfl _ rfl _ rfl _ rfl _ rfl _ rfl _ rfl _ rfl _ rfl
       show St ..
       refine aj (af ?_)
       refine br rfl ?_
       refine cI ?_
       refine bD (bD (cr ?_))
       refine cu ((_, _, _)) ⟨rfl, trivial⟩ (by (iterate 51 refine bI rfl ?_); exact bU) ?_
       exact ⟨hzs.from_ (ai.rfl_.next D61), hfin, (fun e r h0 => by cases h0 <;> (have := (fZ hrun).1; omega)), hzl, hk4.from_ (ai.rfl_.next D61), hk8.from_ (ai.rfl_.next D61), (hB.next D61)⟩
    · have hfin := (jv (r := r) (fun h0 => h1 h0.1)).symm.trans (hsk.trans (congrArg _ hys6))
      obtain ⟨b9, o9, rfl, hcell⟩ := hzs.head
      apply kL 24 [(71, eqp _), (72, eqp _), (73, eqp _), (74, eqp _), (75, eqp _), (76, eqp _), (77, eqp _), (78, eqp _), (79, eqp _), (80, eqp _), (81, eqp _), (82, eqp _), (83, eqp _), (84, eqp _), (85, eqp _), (86, eqp _), (87, eqp _), (88, eqp _), (89, eqp _), (90, eqp _), (91, eqp _), (92, eqp _), (93, eqp _), (94, eqp _)] (by kernel_rfl) (by kernel_rfl) ⟨ah _, ah _, ah _, ah _, ah _, ah _, ah _, ah _, ah _, ah _, ah _, ah _, ah _, ah _, ah _, ah _, ah _, ah _, ah _, ah _, ah _, ah _, ah _, ah _, trivial⟩
      case hop =>
       refine ⟨?_, ?_⟩
       · intro w63 D63
         show av ..
         exact ar (aH (v := .slice _ _ _) rfl) rfl
       refine ⟨?_, ?_⟩
       · intro w64 D64
         rintro _ rfl
         show av ..
         exact ar (bW cC rfl) rfl
       refine ⟨?_, ?_⟩
       · intro w65 D65
         rintro _ rfl
         show av ..
         exact ar (cQ (bS rfl rfl) (by simp)) rfl
       refine ⟨?_, ?_⟩
       · intro w66 D66
         rintro _ rfl
         show av ..
         exact ar (aH (v := .bool _) rfl) rfl
       refine ⟨?_, ?_⟩
       · intro w67 D67
         rintro _ rfl
         show av ..
         exact aD rfl (aH (v := .slice _ _ _) rfl) rfl
       refine ⟨?_, ?_⟩
       · intro w68 D68
         rintro _ rfl _ rfl
         show av ..
         exact aD rfl (eN dN rfl rfl (by simp <;> omega)) rfl
       refine ⟨?_, ?_⟩
       · intro w69 D69
         rintro _ rfl _ rfl
         show av ..
         exact aD rfl (aa gP rfl) rfl
       refine ⟨?_, ?_⟩
       · intro w70 D70
         rintro _ rfl _ rfl
         show av ..
         exact aD rfl (aq an rfl (by exact eB (ai.rfl_.next D70) hcell 0 _ rfl)) rfl
       refine ⟨?_, ?_⟩
       · intro w71 D71
         rintro _ rfl
         show av ..
         exact aD rfl (aH (v := .int _ _) rfl) rfl
       refine ⟨?_, ?_⟩
       · intro w72 D72
         rintro _ rfl _ rfl _ rfl
         show av ..
         exact aD rfl (cJ (gu rfl rfl) (decide_eq_false h1)) rfl
       refine ⟨?_, ?_⟩
       · intro w73 D73
         rintro _ rfl _ rfl
         show av ..
         exact ar (aJ (v := .bool _) rfl rfl) rfl
       refine ⟨?_, ?_⟩
       · intro w74 D74
         rintro _ rfl
         show av ..
         exact ar (aH (v := .bool _) rfl) rfl
       refine ⟨?_, ?_⟩
       · intro w75 D75
         rintro _ rfl
         show av ..
         exact bJ rfl rfl rfl
       refine ⟨?_, ?_⟩
       · intro w76 D76
         rintro _ rfl
         show av ..
         exact bJ rfl rfl rfl
       refine ⟨?_, ?_⟩
       · intro w77 D77
         rintro _ rfl _ rfl
         show av ..
         exact bJ rfl rfl rfl
       refine ⟨?_, ?_⟩
       · intro w78 D78
         rintro _ rfl _ rfl
         show av ..
         exact bJ rfl rfl rfl
       refine ⟨?_, ?_⟩
       · intro w79 D79
         rintro _ rfl _ rfl
         show av ..
         exact bJ rfl rfl rfl
       refine ⟨?_, ?_⟩
       · intro w80 D80
         rintro _ rfl _ rfl _ rfl
         show av ..
         exact bJ rfl rfl rfl
       refine ⟨?_, ?_⟩
       · intro w81 D81
         rintro _ rfl
         show av ..
         exact bJ rfl rfl rfl
       refine ⟨?_, ?_⟩
       · intro w82 D82
         rintro _ rfl _ rfl
         show av ..
         exact bJ rfl rfl rfl
       refine ⟨?_, ?_⟩
       · intro w83 D83
         rintro _ rfl _ rfl
         show av ..
         exact bJ rfl rfl rfl
       refine ⟨?_, ?_⟩
       · intro w84 D84
         rintro _ rfl _ rfl
         show av ..
         exact bJ rfl rfl rfl
       refine ⟨?_, ?_⟩
       · intro w85 D85
         rintro _ rfl _ rfl _ rfl
         show av ..
         exact bJ rfl rfl rfl
       refine ⟨?_, ?_⟩
       · intro w86 D86
         rintro _ rfl _ rfl
         show av ..
         exact ar (aw (v := .bool _) rfl rfl) rfl
       exact trivial
      case hend =>
       intro w87 D87
       rintro _ rfl _ rfl _ rfl _ rfl _ rfl _ rfl _ rfl _ rfl _ rfl _ rfl _ rfl _ rfl _ rfl _ rfl _ rfl _ rfl _ rfl _ rfl _ rfl _ rfl _ rfl _ rfl _ rfl _ rfl
       show St ..
       refine aj (af ?_)
       refine br rfl ?_
       refine cI ?_
       refine bD (bD (cr ?_))
       refine cu ((_, _, _)) ⟨rfl, trivial⟩ (by (iterate 51 refine bI rfl ?_); exact bU) ?_
       exact ⟨hzs.from_ (ai.rfl_.next D87), hfin, (fun e r h0 => by cases h0 <;> (have := (fZ hrun).1; omega)), hzl, hk4.from_ (ai.rfl_.next D87), hk8.from_ (ai.rfl_.next D87), (hB.next D87)⟩
    obtain ⟨b9, o9, rfl, hcell⟩ := hzs.head
    apply kL 24 [(71, eqp _), (72, eqp _), (73, eqp _), (74, eqp _), (75, eqp _), (76, eqp _), (77, eqp _), (78, eqp _), (79, eqp _), (80, eqp _), (81, eqp _), (82, eqp _), (83, eqp _), (84, eqp _), (85, eqp _), (86, eqp _), (87, eqp _), (88, eqp _), (89, eqp _), (90, eqp _), (91, eqp _), (92, eqp _), (93, eqp _), (94, eqp _)] (by kernel_rfl) (by kernel_rfl) ⟨ah _, ah _, ah _, ah _, ah _, ah _, ah _, ah _, ah _, ah _, ah _, ah _, ah _, ah _, ah _, ah _, ah _, ah _, ah _, ah _, ah _, ah _, ah _, ah _, trivial⟩
    case hop =>
     refine ⟨?_, ?_⟩
     · intro w89 D89
       show av ..
       exact ar (aH (v := .slice _ _ _) rfl) rfl
     refine ⟨?_, ?_⟩
     · intro w90 D90
       rintro _ rfl
       show av ..
       exact ar (bW cC rfl) rfl
     refine ⟨?_, ?_⟩
     · intro w91 D91
       rintro _ rfl
       show av ..
       exact ar (cQ (bS rfl rfl) (by simp)) rfl
     refine ⟨?_, ?_⟩
     · intro w92 D92
       rintro _ rfl
       show av ..
       exact ar (aH (v := .bool _) rfl) rfl
     refine ⟨?_, ?_⟩
     · intro w93 D93
       rintro _ rfl
       show av ..
       exact aD rfl (aH (v := .slice _ _ _) rfl) rfl
     refine ⟨?_, ?_⟩
     · intro w94 D94
       rintro _ rfl _ rfl
       show av ..
       exact aD rfl (eN dN rfl rfl (by simp <;> omega)) rfl
     refine ⟨?_, ?_⟩
     · intro w95 D95
       rintro _ rfl _ rfl
       show av ..
       exact aD rfl (aa gP rfl) rfl
     refine ⟨?_, ?_⟩
     · intro w96 D96
       rintro _ rfl _ rfl
       show av ..
       exact aD rfl (aq an rfl (by exact eB (ai.rfl_.next D96) hcell 0 _ rfl)) rfl
     refine ⟨?_, ?_⟩
     · intro w97 D97
       rintro _ rfl
       show av ..
       exact aD rfl (aH (v := .int _ _) rfl) rfl
     refine ⟨?_, ?_⟩
     · intro w98 D98
       rintro _ rfl _ rfl _ rfl
       show av ..
       exact aD rfl (cQ (gu rfl rfl) (decide_eq_true h1)) rfl
     refine ⟨?_, ?_⟩
     · intro w99 D99
       rintro _ rfl _ rfl
       show av ..
       exact ar (aJ (v := .bool _) rfl rfl) rfl
     refine ⟨?_, ?_⟩
     · intro w100 D100
       rintro _ rfl
       show av ..
       exact ar (aH (v := .bool _) rfl) rfl
     refine ⟨?_, ?_⟩
     · intro w101 D101
       rintro _ rfl
       show av ..
       exact aD rfl (aG (cs := [_, _, _]) bB bd rfl (by first | (first | exact (hk4.from_ (ai.rfl_.next D101)).whole | exact (hk4.from_ (ai.rfl_.next D101)).rd 0 rfl | exact (hk4.from_ (ai.rfl_.next D101)).rd 1 rfl | exact (hk4.from_ (ai.rfl_.next D101)).rd 2 rfl))) rfl
     refine ⟨?_, ?_⟩
     · intro w102 D102
       rintro _ rfl
       show av ..
       exact aD rfl (aH (v := .slice _ _ _) rfl) rfl
     refine ⟨?_, ?_⟩
     · intro w103 D103
       rintro _ rfl _ rfl
       show av ..
       exact aD rfl (eN dN rfl rfl (by simp <;> omega)) rfl
     refine ⟨?_, ?_⟩
     · intro w104 D104
       rintro _ rfl _ rfl
       show av ..
       exact aD rfl (aa gP rfl) rfl
     refine ⟨?_, ?_⟩
     · intro w105 D105
       rintro _ rfl _ rfl
       show av ..
       exact aD rfl (aq an rfl (by exact eB (ai.rfl_.next D105) hcell 0 _ rfl)) rfl
     refine ⟨?_, ?_⟩
     · intro w106 D106
       rintro _ rfl _ rfl _ rfl
       show av ..
       refine gx rfl lB ((Rt.of (lE B T e.i _ xs _ (h.from_ (hB.next D106)) hB0 (by omega) (by have := (fZ hrun).1; omega) (by omega) (by omega))).mono ?_)
       rintro v _ ⟨rfl, E106'⟩; exact ⟨E106', rfl⟩
     refine ⟨?_, ?_⟩
     · intro w107 D107
       rintro _ rfl
       show av ..
       exact aD rfl (aH (v := .slice _ _ _) rfl) rfl
     refine ⟨?_, ?_⟩
     · intro w108 D108
       rintro _ rfl _ rfl
       show av ..
       exact aD rfl (eN dN rfl rfl (by simp <;> omega)) rfl
     refine ⟨?_, ?_⟩
     · intro w109 D109
       rintro _ rfl _ rfl
       show av ..
       exact aD rfl (aa jm rfl) rfl
     refine ⟨?_, ?_⟩
     · intro w110 D110
       rintro _ rfl _ rfl
       show av ..
       exact aD rfl (aq an rfl (by exact eB (ai.rfl_.next D110) hcell 1 _ rfl)) rfl
     refine ⟨?_, ?_⟩
     · intro w111 D111
       rintro _ rfl _ rfl _ rfl
       show av ..
       exact aD rfl (bj rfl rfl) rfl
     refine ⟨?_, ?_⟩
     · intro w112 D112
       rintro _ rfl _ rfl
       show av ..
       exact ar (aJ (v := .bool _) rfl rfl) rfl
     exact trivial
    case hend =>
     intro w113 D113
     rintro _ rfl _ rfl _ rfl _ rfl _ rfl _ rfl _ rfl _ rfl _ rfl _ rfl _ rfl _ rfl _ rfl _ rfl _ rfl _ rfl _ rfl _ rfl _ rfl _ rfl _ rfl _ rfl _ rfl _ rfl
     show St ..
     refine aj (af ?_)
     refine aU rfl (fun Q114 => ?_) (fun Q114 => ?_)
     · replace Q114 := ed Q114
       have hq := Q114
       refine aM (af (bg (ag ?_)))
       refine mvs rfl ?_
       refine ab (pA (l := 1) dN rfl (.inr ⟨_, _, _, rfl, rfl, rfl⟩) (.inl ⟨rfl, rfl⟩) (by simp) (by have := hzs.len; simp at this; omega)) ?_
       refine ass rfl ?_
       refine aj (bE ?_)
       refine cu ((r, n_ (some ⟨b9, o9, none⟩) c4 1 3, c4 - 1, p' + 1, e.t)) ⟨(by first | rfl | (refine bT ?_; omega)), trivial⟩ (by (iterate 54 refine bI rfl ?_); exact bU) ⟨?_, ?_⟩
       · exact ⟨(hzs.from_ (ai.rfl_.next D113)).restA (k := 1) (by simp), (pJ ⟨h1, hq⟩).symm.trans hsk, (fZ hrun).2, by omega, by have := (fZ hrun).1; omega, by simp at hzl; omega, hk4.from_ (ai.rfl_.next D113), hk8.from_ (ai.rfl_.next D113), (hB.next D113)⟩
       · simp
     replace Q114 := ee Q114
     have hfin := (jv (r := r) (fun h0 => Q114 h0.2)).symm.trans (hsk.trans (congrArg _ hys6))
     refine cI ?_
     refine bD (bD (cr ?_))
     refine cu ((_, _, _)) ⟨rfl, trivial⟩ (by (iterate 51 refine bI rfl ?_); exact bU) ?_
     exact ⟨hzs.from_ (ai.rfl_.next D113), hfin, (fun e r h0 => by cases h0 <;> (have := (fZ hrun).1; omega)), hzl, hk4.from_ (ai.rfl_.next D113), hk8.from_ (ai.rfl_.next D113), (hB.next D113)⟩
  rintro ⟨zs, A4, c4⟩ ρ115 w115 ⟨hzs, hsk, hhold, hzl, hk4, hk8, hB⟩
  refine iz (G := Nat) [97, 98, 99, 100, 101, 102, 103, 104] (fun k => [(11, .int .i64 (B + (k : Nat)))]) (fun k w' => k = pK B xs zs ∧ k ≤ xs.length ∧ cF w' (.slice A4 zs.length c4) zs ∧ Blk w' b4 24 #[.int .i64 B, .int .i64 T, .slice A xs.length cA] ∧ Blk w' b8 24 #[.int .i64 0, .int .i64 0, .slice none 0 0] ∧ ai w w') ?_ ?_
  · refine ak (ag ?_)
    refine mvs rfl ?_
    refine ab (bW cC rfl) ?_
    refine ab (bS rfl rfl) ?_
    refine aj (af ?_)
    refine aU rfl (fun Q116 => ?_) (fun Q116 => ?_)
    · replace Q116 := dT_ Q116
      obtain ⟨e, r, rfl⟩ := List.exists_cons_of_length_pos (show 0 < zs.length by omega)
      obtain ⟨b9, o9, rfl, hcell⟩ := hzs.head
      obtain ⟨hh1, hh2⟩ := hhold e r rfl
      obtain ⟨k0, hk0⟩ : ∃ k0, k0 = (e.i - 1 - B).toNat := ⟨_, rfl⟩
      refine ag ?_
      refine mvs rfl ?_
      refine ab (eN dN rfl rfl (by simp <;> omega)) ?_
      refine ab (aa gP rfl) ?_
      refine ab (aq an rfl (by exact eB ai.rfl_ hcell 0 _ rfl)) ?_
      refine ab (eA rfl rfl (by omega)) ?_
      refine asi rfl ?_
      refine aj ?_
      refine cu (k0) ⟨(by first | rfl | (refine bT ?_; omega)), trivial⟩ (by (iterate 9 refine bI rfl ?_); exact bU) ?_
      exact ⟨hk0, by omega, hzs.from_ ai.rfl_, hk4.from_ ai.rfl_, hk8.from_ ai.rfl_, hB⟩
    replace Q116 := dF_ Q116
    obtain rfl : zs = [] := List.eq_nil_of_length_eq_zero (by omega)
    obtain ⟨k0, hk0⟩ : ∃ k0, k0 = xs.length := ⟨_, rfl⟩
    refine aM ?_
    refine cu (k0) ⟨(by first | rfl | (refine bT ?_; omega)), trivial⟩ (by (iterate 3 refine bI rfl ?_); exact bU) ?_
    exact ⟨hk0, by omega, hzs.from_ ai.rfl_, hk4.from_ ai.rfl_, hk8.from_ ai.rfl_, hB⟩
  rintro k ρ117 w117 ⟨hk13, hkl, hzs, hk4, hk8, hB⟩
  refine ak (ak (ag ?_))
  refine mvi rfl ?_
  refine ab (aa dH rfl) ?_
  refine ab (aq an rfl (by first | (first | exact (hk4.from_ ai.rfl_).whole | exact (hk4.from_ ai.rfl_).rd 0 rfl | exact (hk4.from_ ai.rfl_).rd 1 rfl | exact (hk4.from_ ai.rfl_).rd 2 rfl))) ?_
  refine ab (eA rfl rfl (by omega)) ?_
  refine mvs rfl ?_
  refine ab (bW cC rfl) ?_
  refine ab (cq rfl rfl (by omega)) ?_
  refine ab (bS rfl rfl) ?_
  refine aj (af ?_)
  refine aU rfl (fun Q118 => ?_) (fun Q118 => ?_)
  · replace Q118 := dT_ Q118
    refine ak (ag ?_)
    refine ab (cp (l := []) (fp)) ?_
    refine b0 (vs := [_, _, _]) bd rfl rfl (by simp [Value.oneCell']) (hk8.from_ ai.rfl_) rfl ?_
    intro w119 O14 P14
    refine asb rfl ?_
    refine asi rfl ?_
    refine aj (af (aC (az ?_)))
    refine jK rfl (cX (cs := [_, _, _]) bB bd rfl (by first | exact P2.whole | exact P8.whole | exact P14.whole | exact P17.whole | exact P18.whole)) (dV (v := .bool _) rfl) (dV (v := .int _ _) rfl) ?_
    exact ⟨mI (by unfold fv; rw [if_pos ⟨hm, hPv, hQv, hR⟩, if_neg hnm, ← hsk]; unfold mg2; rw [← hk13, if_pos (by omega)]) (by decide), (hB.only O14 (hg8))⟩
  replace Q118 := dF_ Q118
  refine aM (af (ak (ag ?_)))
  refine ab (aG (cs := [_, _, _]) bB bd rfl (by first | (first | exact (hk4.from_ ai.rfl_).whole | exact (hk4.from_ ai.rfl_).rd 0 rfl | exact (hk4.from_ ai.rfl_).rd 1 rfl | exact (hk4.from_ ai.rfl_).rd 2 rfl))) ?_
  refine mvi rfl ?_
  refine mvs rfl ?_
  have hb117 := (hk8.from_ ai.rfl_).lt
  refine aB jE (mK B T _ k A A4 _ cA _ c4 xs zs _ (h.from_ hB) (hzs.from_ ai.rfl_) hB0 (by omega) rfl hkl (by omega) (by omega)) ?_
  rintro v117 w120 ⟨A117, c117, rfl, ho117, E117⟩
  refine b0 (vs := [_, _, _]) bd rfl rfl (by simp [Value.oneCell']) (hk8.from_ (ai.rfl_.next E117)) rfl ?_
  intro w121 O15 P15
  refine aj (af (ak (ak (ag ?_))))
  refine ab (aG (cs := [_, _, _]) bB bd rfl (by exact P15.whole)) ?_
  refine aB jF (Rt.of (g_ B T _ (xs.take k ++ zs) _ (cF.of_own (kC ho117 O15 hb117) (by simp; omega)))) ?_
  rintro v119 w122 ⟨rfl, E119⟩
  refine ab (dG rfl rfl) ?_
  refine aj (af ?_)
  refine aU rfl (fun Q123 => ?_) (fun Q123 => ?_)
  · replace Q123 := dw Q123; replace Q123 := ee Q123
    have hmay : ¬ cD B T (xs.take k ++ zs) = true := fun h0 => Q123 (by unfold chk; rw [if_pos h0])
    refine ak (ag ?_)
    refine ab (cp (l := []) (fp)) ?_
    refine b0 (vs := [_, _, _]) bd rfl rfl (by simp [Value.oneCell']) (P15.from_ (ai.rfl_.next E119)) rfl ?_
    intro w124 O17 P17
    refine asb rfl ?_
    refine asi rfl ?_
    refine aj (af (aC (az ?_)))
    refine jK rfl (cX (cs := [_, _, _]) bB bd rfl (by first | exact P2.whole | exact P8.whole | exact P14.whole | exact P17.whole | exact P18.whole)) (dV (v := .bool _) rfl) (dV (v := .int _ _) rfl) ?_
    exact ⟨mI (by unfold fv; rw [if_pos ⟨hm, hPv, hQv, hR⟩, if_neg hnm, ← hsk]; unfold mg2; rw [← hk13, if_neg (by omega), if_neg hmay]) (by decide), ((((hB.next E117).only O15 (hg8)).next E119).only O17 (hg8))⟩
  replace Q123 := dy Q123; replace Q123 := ed Q123
  have hmay : cD B T (xs.take k ++ zs) = true := by
    cases hm : cD B T (xs.take k ++ zs) with
    | true => rfl
    | false => unfold chk at Q123; rw [hm] at Q123; cases Q123
  refine aM (af (ak (ag ?_)))
  refine ab (aG (cs := [_, _, _]) bB bd rfl (by exact (P15.from_ (ai.rfl_.next E119)).whole)) ?_
  have ho122 := (kC ho117 O15 hb117).kept_from (ai.rfl_.next E119)
  refine b0 (vs := [_, _, _]) bd rfl rfl (by simp [Value.oneCell']) (P15.from_ (ai.rfl_.next E119)) rfl ?_
  intro w125 O18 P18
  refine asb rfl ?_
  refine asi rfl ?_
  refine aj (af (aC ?_))
  refine jK rfl (cX (cs := [_, _, _]) bB bd rfl (by first | exact P2.whole | exact P8.whole | exact P14.whole | exact P17.whole | exact P18.whole)) (dV (v := .bool _) rfl) (dV (v := .int _ _) rfl) ?_
  refine ⟨qh (ys := xs.take k ++ zs) (by unfold fv; rw [if_pos ⟨hm, hPv, hQv, hR⟩, if_neg hnm, ← hsk]; unfold mg2; rw [← hk13, if_neg (by omega), if_pos hmay]) (by simp; omega) (fD (kC ho122 O18 hb117) (by omega)), ((((hB.next E117).only O15 (hg8)).next E119).only O18 (hg8))⟩
def zB (B T:Int) (xs ys:List Ent):Int:=if d_ ys (dP B xs) (dp T xs)=true then (if xs.length+ys.length≤512 then 0 else 6) else 1
theorem gO:aR prog 65=true:=by kernel_rfl
theorem sW (B T:Int) (A:Option Addr) (n c:Nat) (xs:List Ent) (w:World) (h:cF w (.slice A n c) xs) (hl:xs.length≤400000000000) :
 Rt prog 27 [.agg #[.int .i64 B,.int .i64 T,.slice A n c]] w fun v w'=>∃ A' c',v=.agg #[.int .i64 B,.int .i64 T,.slice A' xs.length c']∧w'.ownsRow w.heap.size 99 3 (.slice A' xs.length c') xs.length (eb xs)∧cF w' (.slice A' xs.length c') xs∧ai w w':=
 Calls.mono (rN B T _ xs w h hl) fun e w' ⟨v',he,ho,hF⟩=>⟨_,he,by obtain ⟨A',c',rfl⟩:=fL ho;exact ⟨A',c',rfl,ho,cF.of_own ho rfl,hF⟩⟩
theorem wQ (B T:Int) (A:Option Addr) (n c:Nat) (xs:List Ent) (w:World) (h:cF w (.slice A n c) xs) (hm:cD B T xs=true) :
 Rt prog 116 [.agg #[.int .i64 B,.int .i64 T,.slice A n c]] w fun v w'=>v=.int .i64 0∧ai w w':=
 Rt.mono (Rt.of (g_ B T _ xs w h)) fun v w' h=>⟨by rw [h.1];unfold chk;rw [if_pos hm],h.2⟩
def gg (B T:Int) (xs:List Ent) (i t:Int):Bool:=decide (dp T xs<t∨(t=dp T xs∧dP B xs≤i))
theorem rp (B T i t:Int) (A:Option Addr) (c:Nat) (xs:List Ent) (w:World) (h:cF w (.slice A xs.length c) xs) :
 Rt prog 125 [.agg #[.int .i64 B,.int .i64 T,.slice A xs.length c],.int .i64 i,.int .i64 t] w (fun v w'=>v=.bool (gg B T xs i t)∧ai w w'):=by
 refine enter (n:=27) Tryz.func125 rfl rfl rfl (ak (ag (bZ (v:=.agg _) rfl ?_)));intro b3 w1 E3 hb3 hk3;refine asb rfl (aj (af (ak (ag (ab (aG (cs:=[_,_,_]) bB bd rfl (by first | (first | exact (hk3.from_ ai.rfl_).whole | exact (hk3.from_ ai.rfl_).rd 0 rfl | exact (hk3.from_ ai.rfl_).rd 1 rfl | exact (hk3.from_ ai.rfl_).rd 2 rfl))) ?_)))));refine aB gO (Rt.of (mY B T _ xs _ (h.from_ (ai.rfl_.next E3)))) ?_;rintro v11 w2 ⟨rfl,E11⟩;refine mvt rfl (ab (aY rfl rfl) (ab (aY rfl rfl) (asi rfl (asi rfl (aj (af (ak (ag (mvi rfl (mvi rfl (ab (bS rfl rfl) ?_)))))))))));refine mvb rfl (zt (t:=17) rfl (fun Q3=>?_) (fun Q3=>?_))
 ·refine ao rfl rfl (ao rfl rfl (ao rfl rfl (ao rfl rfl (dz rfl (dz rfl (dz rfl (ao rfl rfl (ab (aJ (v:=.bool _) rfl rfl) ?_))))))));refine asb rfl (aj (af (aC (bo (v:=.bool _) rfl rfl (⟨congrArg Value.bool ?_,((ai.rfl_.next E3).next E11)⟩)))));unfold gg
  first
   |exact (decide_eq_true (by omega)).symm
   |exact (decide_eq_false (by omega)).symm
   |exact decide_eq_decide.2 (by omega)
 refine ae rfl (mvi rfl (ae rfl (mvi rfl (ae rfl (ab (bj rfl rfl) (ae rfl (mvb rfl (zr (t:=21) rfl (fun Q4=>?_) (fun Q4=>?_)))))))))
 ·refine ae rfl (mvi rfl (ae rfl (mvi rfl (ae rfl (ab (j7 rfl rfl) (ae rfl (ab (aJ (v:=.bool _) rfl rfl) (ab (aw (v:=.bool _) rfl rfl) ?_))))))));refine asb rfl (aj (af (aC (bo (v:=.bool _) rfl rfl (⟨congrArg Value.bool ?_,((ai.rfl_.next E3).next E11)⟩)))));unfold gg
  first
   |exact (decide_eq_true (by omega)).symm
   |exact (decide_eq_false (by omega)).symm
   |exact decide_eq_decide.2 (by omega)
 refine ao rfl rfl (ao rfl rfl (ao rfl rfl (ae rfl (ab (aw (v:=.bool _) rfl rfl) (ab (aw (v:=.bool _) rfl rfl) (asb rfl (aj (af (aC (bo (v:=.bool _) rfl rfl ?_))))))))));refine ⟨congrArg Value.bool ?_,((ai.rfl_.next E3).next E11)⟩;unfold gg
 first
  |exact (decide_eq_true (by omega)).symm
  |exact (decide_eq_false (by omega)).symm
  |exact decide_eq_decide.2 (by omega)
theorem vT (B T i t:Int) (A:Option Addr) (c:Nat) (xs:List Ent) (w:World) (h:cF w (.slice A xs.length c) xs) (hm:cD B T xs=true) :
 Rt prog 145 [.agg #[.int .i64 B,.int .i64 T,.slice A xs.length c],.int .i64 i,.int .i64 t] w (fun v w'=>v=.tuple #[.bool (gg B T xs i t),.int .i64 0]∧ai w w'):=by
 refine enter (n:=31) Tryz.func145 rfl rfl rfl (ak (ag (bZ (v:=.agg _) rfl ?_)));intro b3 w1 E3 hb3 hk3;refine asb rfl (asi rfl (aj (af (ak (ak (ag (ab (aG (cs:=[_,_,_]) bB bd rfl (by first | (first | exact (hk3.from_ ai.rfl_).whole | exact (hk3.from_ ai.rfl_).rd 0 rfl | exact (hk3.from_ ai.rfl_).rd 1 rfl | exact (hk3.from_ ai.rfl_).rd 2 rfl))) ?_)))))));refine aB jF (wQ B T A _ c xs _ (h.from_ (ai.rfl_.next E3)) hm) ?_;rintro v11 w2 ⟨rfl,E11⟩;refine ab (dG rfl rfl) (aj (af (aU rfl (fun Q3=>?_) (fun Q3=>?_))))
 ·replace Q3:=dw Q3;replace Q3:=ee Q3;exfalso;contradiction
 replace Q3:=dy Q3;replace Q3:=ed Q3;refine aM (af (ak (ag (ab (aG (cs:=[_,_,_]) bB bd rfl (by first | (first | exact (hk3.from_ (ai.rfl_.next E11)).whole | exact (hk3.from_ (ai.rfl_.next E11)).rd 0 rfl | exact (hk3.from_ (ai.rfl_.next E11)).rd 1 rfl | exact (hk3.from_ (ai.rfl_.next E11)).rd 2 rfl))) ?_))));refine aB lD (Rt.of (gZ B T _ xs _ (h.from_ ((ai.rfl_.next E3).next E11)))) ?_;rintro v15 w4 ⟨rfl,E15⟩;refine mvt rfl (ab (aY rfl rfl) (ab (aY rfl rfl) (asi rfl (asi rfl (aj (af (ak (ag (mvi rfl (mvi rfl (ab (bS rfl rfl) ?_)))))))))));refine mvb rfl (zt (t:=21) rfl (fun Q5=>?_) (fun Q5=>?_))
 ·refine ao rfl rfl (ao rfl rfl (ao rfl rfl (ao rfl rfl (dz rfl (dz rfl (dz rfl (ao rfl rfl (ab (aJ (v:=.bool _) rfl rfl) ?_))))))));refine asb rfl (asi rfl (aj (af (aC (mz (v:=.bool _) (v':=.int _ _) rfl rfl rfl (⟨congrArg (fun b=>Value.tuple #[.bool b,.int .i64 0]) ?_,(((ai.rfl_.next E3).next E11).next E15)⟩))))));unfold gg
  first
   |exact (decide_eq_true (by omega)).symm
   |exact (decide_eq_false (by omega)).symm
   |exact decide_eq_decide.2 (by omega)
 refine ae rfl (mvi rfl (ae rfl (mvi rfl (ae rfl (ab (bj rfl rfl) (ae rfl (mvb rfl (zr (t:=25) rfl (fun Q6=>?_) (fun Q6=>?_)))))))))
 ·refine ae rfl (mvi rfl (ae rfl (mvi rfl (ae rfl (ab (j7 rfl rfl) (ae rfl (ab (aJ (v:=.bool _) rfl rfl) (ab (aw (v:=.bool _) rfl rfl) ?_))))))));refine asb rfl (asi rfl (aj (af (aC (mz (v:=.bool _) (v':=.int _ _) rfl rfl rfl (⟨congrArg (fun b=>Value.tuple #[.bool b,.int .i64 0]) ?_,(((ai.rfl_.next E3).next E11).next E15)⟩))))));unfold gg
  first
   |exact (decide_eq_true (by omega)).symm
   |exact (decide_eq_false (by omega)).symm
   |exact decide_eq_decide.2 (by omega)
 refine ao rfl rfl (ao rfl rfl (ao rfl rfl (ae rfl (ab (aw (v:=.bool _) rfl rfl) (ab (aw (v:=.bool _) rfl rfl) (asb rfl (asi rfl (aj (af (aC ?_))))))))));refine mz (v:=.bool _) (v':=.int _ _) rfl rfl rfl (⟨congrArg (fun b=>Value.tuple #[.bool b,.int .i64 0]) ?_,(((ai.rfl_.next E3).next E11).next E15)⟩);unfold gg
 first
  |exact (decide_eq_true (by omega)).symm
  |exact (decide_eq_false (by omega)).symm
  |exact decide_eq_decide.2 (by omega)
def kE (Ex:List Nat) (RL:List (Nat×(Value→World→Prop))) (t:Nat):Value→World→Prop:=bif Ex.elem t then fun _ _=>True else gR RL t
theorem sM {Ex:List Nat} {l:List (Nat×(Value→World→Prop))} (h:p6 l):∀ t v w1 w2,ai w1 w2→kE Ex l t v w1→kE Ex l t v w2:=by
 intro t v w1 w2 hF h1;unfold kE at h1 ⊢;cases hb:Ex.elem t with
 |true=>trivial
 |false=>rw [hb] at h1;exact gY h t v w1 w2 hF h1
theorem wq {Ex:List Nat} {l:List (Nat×(Value→World→Prop))}:∀ t v w,gR l t v w→kE Ex l t v w:=by
 intro t v w h;unfold kE;cases hb:Ex.elem t with
 |true=>trivial
 |false=>exact h
def MuR (Ex:List Nat) (d:Nat) (w1 w2:World):List (Nat×(Value→World→Prop))→Prop
 |[]=>True
 |(k,R)::r=>((Ex.elem k||Nat.beq k d)=true∨∀ u,R u w1→R u w2)∧MuR Ex d w1 w2 r
theorem ou {Ex:List Nat} {d:Nat} {w1 w2:World}:∀ {RL:List (Nat×(Value→World→Prop))},MuR Ex d w1 w2 RL→∀ t u,t≠d→gR RL t u w1→kE Ex RL t u w2
 |[],_,t,u,_,_=>by unfold kE;cases Ex.elem t <;> trivial
 |(k,R)::r,⟨h1,h2⟩,t,u,hd,h=>by
  have e:gR ((k,R)::r) t=bif Nat.beq t k then R else gR r t:=rfl
  have ih:=ou h2 t u hd;unfold kE at ih ⊢;rw [e] at h ⊢;cases hx:Ex.elem t with
  |true=>trivial
  |false=>
   rw [hx] at ih;simp only [cond_false] at ih ⊢;cases hb:Nat.beq t k with
   |true=>
    have hk:t=k:=Nat.eq_of_beq_eq_true hb;subst hk;rw [hb] at h;rcases h1 with h1 | h1
    ·rw [hx,Bool.false_or] at h1;exact absurd (Nat.eq_of_beq_eq_true h1) hd
    ·exact h1 u h
   |false=>rw [hb] at h;exact ih h
def yi (l:List Oper):Nat→Oper→Nat→Bool
 |0,o,j=>iI o j
 |n+1,o,j=>iI o j||o.after.toList.any fun e=>Region.binds .any e&&match l[e.on]? with | some o'=>yi l n o' j | none=>false
def mM (l:List Oper) (o:Oper) (j:Nat):Bool:=yi l 3 o j
def ij (l:List Oper) (listed:Array Bool):Prop:=∀ i o,l[i]? =some o→listed.getD i false=true→∀ e∈o.after,Region.binds .any e=true→listed.getD e.on false=true
theorem fF {l:List Oper} {listed:Array Bool} (hcl:ij l listed) {o:Oper} {j:Nat} (hall:∀ e∈o.after,Region.binds .any e=true→listed.getD e.on false=true) (h:mM l o j=true):listed.getD j false=true:=by
 have direct:∀ (x:Oper),(∀ e∈x.after,Region.binds .any e=true→listed.getD e.on false=true)→iI x j=true→listed.getD j false=true:=by
  intro x hx he;obtain ⟨e,he,he2⟩:=List.any_eq_true.1 he;simp only [Bool.and_eq_true,beq_iff_eq] at he2;have:=hx e (by simpa using he) he2.1
  rwa [he2.2] at this
 have all:∀ (n:Nat) (x:Oper),(∀ e∈x.after,Region.binds .any e=true→listed.getD e.on false=true)→yi l n x j=true→listed.getD j false=true:=by
  intro n
  induction n with
  |zero=>intro x hx h;exact direct x hx h
  |succ n ih=>
   intro x hx h;unfold yi at h;rcases Bool.or_eq_true_iff.1 h with h | h
   ·exact direct x hx h
   ·obtain ⟨e,he,he2⟩:=List.any_eq_true.1 h;simp only [Bool.and_eq_true] at he2;have h1:=hx e (by simpa using he) he2.1;cases ho:l[e.on]? with
    |none=>rw [ho] at he2;cases he2.2
    |some o'=>
     rw [ho] at he2;exact ih o' (hcl e.on o' ho h1) he2.2
 exact all 3 o hall h
theorem ke {l:List Oper} {listed:Array Bool} (hcl:ij l listed) {i:Nat} {o:Oper} (ho:l[i]? =some o) (hall:∀ e∈o.after,Region.binds .any e=true→listed.getD e.on false=true):ij l (listed.setIfInBounds i true):=by
 have up:∀ k,listed.getD k false=true→(listed.setIfInBounds i true).getD k false=true:=by
  intro k hk;by_cases e:i=k
  ·subst e
   have:i<listed.size:=by
    rcases Nat.lt_or_ge i listed.size with h | h
    ·exact h
    ·simp [Array.getD,show ¬ i<listed.size by omega] at hk
   simp [this]
  ·rw [getD_set_ne false e];exact hk
 intro k x hx hk e he hb;by_cases h:i=k
 ·subst h;rw [ho] at hx;cases hx;exact up _ (hall e he hb)
 ·rw [getD_set_ne false h] at hk;exact up _ (hcl k x hx hk e he hb)
theorem ng (l:List Oper) (n:Nat):ij l (Array.replicate n false):=by
 intro i o _ h;simp [Array.getD] at h
def xT (l:List Oper) (K i t:Nat):Bool:=(List.range K).any fun j=>match l[j]? with | some oj=>(oj.dst==some t)&&mM l oj i | none=>false
def fR (l:List Oper) (K i:Nat) (o:Oper):List Nat:=(fP l K).filter fun t=>(o.looksAt l.toArray).elem t&&!xT l K i t
def mU (P:Program) (ops:Array Oper) (n:Fr) (L:List (Nat×Value)) (I2:World→Prop) (R1 R2:Nat→Value→World→Prop) (l0:List Oper) (K:Nat) (mu:Nat):Nat→List Oper→Prop
 |_,[]=>True
 |i,o::r=>(Nat.beq i mu=false→∀ w',I2 w'→jq R2 w' (fR l0 K i o) fun M=>av P ops n (M++L) o w' (R1 (o.dst.getD 0)))∧mU P ops n L I2 R1 R2 l0 K mu (i+1) r
theorem pH {P:Program} {ops:Array Oper} {n:Fr} {L:List (Nat×Value)} {I2:World→Prop} {R1 R2:Nat→Value→World→Prop} {l0:List Oper} {K mu:Nat}:∀ {l:List Oper} {k:Nat},mU P ops n L I2 R1 R2 l0 K mu k l→∀ (i:Nat) (o:Oper),l[i]? =some o→k+i≠mu→
 ∀ w',I2 w'→jq R2 w' (fR l0 K (k+i) o) fun M=>av P ops n (M++L) o w' (R1 (o.dst.getD 0))
 |[],_,_,i,o,h,_=>by simp at h
 |x::r,k,⟨h1,h2⟩,0,o,h,hne=>by
  simp only [List.getElem?_cons_zero,Option.some.injEq] at h;subst h;rw [Nat.add_zero] at hne ⊢;refine h1 ?_;rw [←Bool.not_eq_true];intro hb;exact hne (Nat.eq_of_beq_eq_true hb)
 |x::r,k,⟨h1,h2⟩,i+1,o,h,hne=>by
  have:=pH h2 i o (by simpa using h) (by omega)
  rwa [show k+1+i=k+(i+1) by omega] at this
theorem oo {P:Program} {ops:Array Oper} {n:Fr} {L:List (Nat×Value)} {I2:World→Prop} {R1 R2:Nat→Value→World→Prop} {l0:List Oper} {K mu:Nat} {l:List Oper} (h:mU P ops n L I2 R1 R2 l0 K mu 0 l) (i:Nat) (o:Oper) (ho:l[i]? =some o) (hne:i≠mu)
 (w':World) (hw:I2 w'):jq R2 w' (fR l0 K i o) fun M=>av P ops n (M++L) o w' (R1 (o.dst.getD 0)):=by
 have:=pH h i o ho (by rw [Nat.zero_add];exact hne) w' hw
 rwa [Nat.zero_add] at this
def u_ (P:Program) (ops:Array Oper) (n:Fr) (L:List (Nat×Value)) (o:Oper) (w:World) (post:Value→World→Prop):Prop:=
 Region.wanted o (yielded ops (mkT n.n L))=true∧((∃ v w',(execOp (ev n L) o).run P w=.ok (.value v) w'∧post v w')∨(∃ f l,(execOp (ev n L) o).run P w=.ok (.enter f (List.toArray l)) w∧Rt P f l w post))
def yA (P:Program) (ops:Array Oper) (n:Fr) (L:List (Nat×Value)) (I1 I2:World→Prop) (R1 R2:Nat→Value→World→Prop) (l0:List Oper) (K mu:Nat):Option Oper→Prop
 |none=>True
 |some o=>∀ w',I1 w'→jq R1 w' (fR l0 K mu o) fun M=>u_ P ops n (M++L) o w' fun v w''=>I2 w''∧R2 (o.dst.getD 0) v w''∧∀ t u,t≠o.dst.getD 0→R1 t u w'→R2 t u w''
def eI (l:List Oper) (K j:Nat):Bool:=(List.range l.length).any fun i=>decide (K≤i)&&(match l[i]? with | some o=> !mM l o j | none=>false)
def yD (l:List Oper) (K:Nat):Bool:=
 (List.range K).all fun j=> !eI l K j||match l[j]? with
  |none=>false
  |some o=>oz o.op&&o.guard.isNone&&o.dst.isSome&&(List.range l.length).all fun i=>i==j||match l[i]? with
   |none=>false
   |some y=>(if i<K then !eI l K i else mM l y j)||o.apart l.toArray y
def ly (l:List Oper) (K:Nat):Bool:=
 let ops:=l.toArray
 let dst (i:Nat):Option Nat:=(l[i]?).bind (·.dst)
 (decide (K≤l.length)&&
 (List.range l.length).all fun i=>match l[i]? with
  |none=>false
  |some o=>
   (o.after.toList.all fun e=> !Region.binds .any e||decide (e.on<i))&&!dQ o.op&&
   (if i<K then
    (match o.dst with
     |none=>false
     |some d=>(List.range K).all (fun j=>j==i||dst j != some d)&&!((o.looksAt ops).elem d))&&
    (List.range K).all (fun j=>match dst j with
     |none=>false
     |some d=> !(o.looksAt ops).elem d||xT l K i d||(decide (j<i)&&mM l o j))
    else (List.range i).all (fun j=>mM l o j||decide (j<K))))&&yD l K
section late
variable {P:Program} {Q:Exit→Act→World→Prop} {n:Fr} {L:List (Nat×Value)} {w:World} {l:List Oper} {K:Nat} {R:Nat→Value→World→Prop}
theorem i_ (hc:yD l K=true) {j:Nat} {o:Oper} (hj:j<K) (ho:l[j]? =some o) (hl:eI l K j=true) :
 oz o.op=true∧o.guard=none∧∀ i y,l[i]? =some y→i≠j→((i<K∧eI l K i=true)∨(K≤i∧mM l y j=false))→o.apart l.toArray y=true:=by
 have h:=List.all_eq_true.1 hc j (List.mem_range.2 hj);rw [hl,ho] at h;simp only [Bool.not_true,Bool.false_or,Bool.and_eq_true] at h;refine ⟨h.1.1.1,by simpa using h.1.1.2,fun i y hi hne hcase=>?_⟩;have h2:=List.all_eq_true.1 h.2 i (List.mem_range.2 (List.getElem?_eq_some_iff.1 hi).1);rw [hi] at h2;simp only [beq_iff_eq,hne,Bool.or_eq_true,false_or] at h2;rcases hcase with ⟨h3,h4⟩ | ⟨h3,h4⟩
 ·simp [h3,h4] at h2;exact h2
 ·simp [show ¬ i<K by omega,h4] at h2;exact h2
theorem lx {i j:Nat} {o:Oper} (hl:eI l K j=false) (ho:l[i]? =some o) (hi:K≤i):mM l o j=true:=by
 unfold eI at hl;have:=List.any_eq_false.1 hl i (List.mem_range.2 (List.getElem?_eq_some_iff.1 ho).1);rw [ho] at this;simpa [hi] using this
theorem nP (hQ:PQ Q) (hc:ly l K=true) {f:Nat→Value}:∀ (m k:Nat) (listed:Array Bool) (U:List Nat) (a:Act) (w':World),ij l listed→listed.toList.count false=m→listed.size=l.length→K≤k→k≤l.length→
 (∀ j,K≤j→j<l.length→listed.getD j true=decide (j<k))→U.Nodup→(∀ j,j<K→(listed.getD j true=false↔j∈U))→(∀ j∈U,j<K∧eI l K j=true∧∃ o,l[j]? =some o∧Yields P l.toArray o (f j) a)→
 wpList P l.toArray Q (l.drop k) (iG l f U a) w'→wpAny P .any l.toArray Q m listed a w':=by
 have hc1:=(Bool.and_eq_true_iff.1 hc).1;have hlate:=(Bool.and_eq_true_iff.1 hc).2;have hKl:K≤l.length:=dT_ (Bool.and_eq_true_iff.1 hc1).1;have hck:=(List.all_eq_true.1 (Bool.and_eq_true_iff.1 hc1).2);intro m
 induction m with
 |zero=>
  intro k listed U a w' hcl hcount hs hK hkl htail hn hU hUl h
  have hall:∀ j,j<l.length→listed.getD j true=true:=by
   intro j hj;have hm:listed[j]'(by omega)∈listed.toList:=by simp
   cases hb:listed[j]'(by omega) with
   |true=>simp [Array.getD,show j<listed.size by omega,hb]
   |false=>
    rw [hb] at hm;exact absurd hcount (Nat.pos_iff_ne_zero.1 (List.count_pos_iff.2 hm))
  have hU0:U=[]:=by
   rw [List.eq_nil_iff_forall_not_mem];intro j hj;have h1:=(hU j (hUl j hj).1).2 hj;rw [hall j (by have:=(hUl j hj).1;omega)] at h1;cases h1
  have hke:k=l.length:=by
   rcases Nat.lt_or_ge k l.length with hlt | hge
   ·have h1:=htail k hK hlt;rw [hall k hlt] at h1;simp at h1
   ·omega
  subst hU0 hke;refine ⟨?_,by simpa [iG,wpList] using h⟩;rw [List.eq_nil_iff_forall_not_mem];intro j hj;obtain ⟨h0,o,ho,_⟩:=mem_ready.1 hj;rw [List.getElem?_toArray] at ho;rw [hall j (List.getElem?_eq_some_iff.1 ho).1] at h0;cases h0
 |succ m ih=>
  intro k listed U a w' hcl hcount hs hK hkl htail hn hU hUl h
  have hex:∃ i,i<l.length∧listed.getD i true=false:=by
   obtain ⟨i,hi,hb⟩:=List.mem_iff_getElem.1 (List.count_pos_iff.1 (by rw [hcount];omega:0<listed.toList.count false));have hi':i<listed.size:=by simpa using hi
   exact ⟨i,by omega,by simpa [Array.getD,hi'] using hb⟩
  obtain ⟨i0,hi0,hmin⟩:=exists_least hex
  have hready:i0∈Region.ready .any l.toArray listed:=by
   refine mem_ready.2 ⟨hi0.2,l[i0]'hi0.1,by rw [List.getElem?_toArray,List.getElem?_eq_getElem hi0.1],fun e he hb=>?_⟩;have hx:=hck i0 (List.mem_range.2 hi0.1);rw [List.getElem?_eq_getElem hi0.1] at hx;simp only [Bool.and_eq_true] at hx;have he2:=List.all_eq_true.1 hx.1.1 e (by simpa using he);rw [hb] at he2;simp at he2;rw [←cd (by omega)];cases hb2:listed.getD e.on true with
   |true=>rfl
   |false=>exact absurd (hmin e.on ⟨by omega,hb2⟩) (by omega)
  refine ⟨fun h0=>(by rw [h0] at hready;cases hready),fun i hi=>?_⟩;obtain ⟨h0,o,ho,hall⟩:=mem_ready.1 hi;rw [List.getElem?_toArray] at ho;have hil:i<l.length:=(List.getElem?_eq_some_iff.1 ho).1;have hx:=hck i (List.mem_range.2 hil);rw [ho] at hx;simp only [Bool.and_eq_true] at hx;have hsel:dQ o.op=false:=by simpa using hx.1.2
  have hcnt:(listed.setIfInBounds i true).toList.count false=m:=by
   have hil':i<listed.size:=by omega
   have hfalse:listed.toList[i]? =some false:=by
    rw [Array.getElem?_toList,Array.getElem?_eq_getElem hil'];simp [Array.getD,hil'] at h0;rw [h0]
   rw [Array.toList_setIfInBounds];have:=eW (l:=listed.toList) (i:=i) hfalse;omega
  by_cases hiK:i<K
  ·
   have hiU:=(hU i hiK).1 h0;obtain ⟨_,hil8,o',ho',hy⟩:=hUl i hiU;rw [ho] at ho';cases ho';obtain ⟨_,_,hap⟩:=i_ hlate hiK ho hil8;refine Yields.wpOp (by rw [List.getElem?_toArray];exact ho) hy ?_;have he:a.put o.dst (f i)=a.put ((l[i]?).bind (·.dst)) (f i):=by rw [ho];rfl
   refine ih k _ (U.erase i) _ w' (ke hcl ho hall) hcnt (by simpa using hs) hK hkl (fun j h1 h2=>by rw [getD_set_ne true (by omega)];exact htail j h1 h2) (hn.erase i) (fun j hj=>?_) (fun j hj=>?_) ?_
   ·by_cases e:i=j
    ·subst e;simp [hs,hil,hn.not_mem_erase]
    ·rw [getD_set_ne true e,hU j hj];exact (List.mem_erase_of_ne (Ne.symm e)).symm
   ·have hjU:=List.mem_of_mem_erase hj;obtain ⟨h1,h2,oj,h3,h4⟩:=hUl j hjU;have hne:i≠j:=fun e=>by subst e;exact (hn.not_mem_erase) hj
    obtain ⟨_,_,hapj⟩:=i_ hlate h1 h3 h2;have hxj:=hck j (List.mem_range.2 (by omega));rw [h3] at hxj;simp only [Bool.and_eq_true] at hxj;exact ⟨h1,h2,oj,h3,(nL (by simpa using hxj.1.2) (hapj i o ho hne (.inl ⟨hiK,hil8⟩))).2 h4⟩
   ·rw [he,oh U a hiU hn (fun j hj hne d hd=>?_)]
    ·exact h
    ·obtain ⟨h1,h2,oj,h3,h4⟩:=hUl j hj;have h5:=(Oper.apart_spec (hap j oj h3 hne (.inl ⟨h1,h2⟩))).2.1 d (by rw [ho] at hd;exact hd);rw [h3];exact h5
  ·
   have hik:i=k:=by
    rw [htail i (by omega) hil] at h0;have h0':k≤i:=by simpa using h0
    rcases Nat.eq_or_lt_of_le h0' with e | hlt
    ·exact e.symm
    ·exfalso;have h3:=hx.2;rw [if_neg hiK] at h3;have h4:=List.all_eq_true.1 h3 k (List.mem_range.2 hlt);simp only [show ¬ k<K by omega,decide_false,Bool.or_false] at h4;have h5:=fF hcl hall h4;rw [←cd (by omega),htail k hK (by omega)] at h5;simp at h5
   subst hik
   have hdrop:l.drop i=o::l.drop (i+1):=by
    rw [List.drop_eq_getElem_cons hil];rw [List.getElem?_eq_getElem hil] at ho;cases ho;rfl
   rw [hdrop] at h
   have hk2:wpOp P l.toArray Q i (wpList P l.toArray Q (l.drop (i+1))) (iG l f U a) w':=by
    unfold wpOp;rw [List.getElem?_toArray,ho];exact h
   have hne:∀ j∈U,j≠i:=fun j hj e=>by have:=(hUl j hj).1;omega
   have hk3:=pe hQ ho hsel U _ a hn (fun j hj=>by
    obtain ⟨h1,h2,oj,h3,h4⟩:=hUl j hj;obtain ⟨_,_,hapj⟩:=i_ hlate h1 h3 h2;have hxj:=hck j (List.mem_range.2 (by omega));rw [h3] at hxj;simp only [Bool.and_eq_true] at hxj;refine ⟨oj,h3,by simpa using hxj.1.2,hapj i o ho (Ne.symm (hne j hj)) (.inr ⟨by omega,?_⟩),h4,fun j' hj' hne'=>?_⟩
    ·cases hE:mM l o j with
     |false=>rfl
     |true=>
      have h5:=fF hcl hall hE;rw [←cd (by omega),(hU j h1).2 hj] at h5;cases h5
    ·obtain ⟨h1',h2',oj',h3',_⟩:=hUl j' hj';exact ⟨oj',h3',hapj j' oj' h3' hne' (.inl ⟨h1',h2'⟩)⟩) hk2
   refine wpOp_mono (fun a' w'' hh=>?_) hk3;refine ih (i+1) _ U a' w'' (ke hcl ho hall) hcnt (by simpa using hs) (by omega) (by omega) (fun j h1 h2=>?_) hn (fun j hj=>?_) (fun j hj=>?_) hh.2
   ·by_cases e:i=j
    ·subst e;simp [hs,hil]
    ·rw [getD_set_ne true e,htail j h1 h2];have:(j<i+1)↔(j<i):=by omega
     simp [this]
   ·rw [getD_set_ne true (by omega)];exact hU j hj
   ·obtain ⟨h1,h2,oj,h3,_⟩:=hUl j hj;exact ⟨h1,h2,oj,h3,hh.1 j hj oj h3⟩
end late
section late
variable {P:Program} {Q:Exit→Act→World→Prop} {n:Fr} {L:List (Nat×Value)} {w:World} {l:List Oper} {K mu:Nat} {I1 I2:World→Prop} {R1 R:Nat→Value→World→Prop}
theorem zv (hc:ly l K=true) {j j':Nat} {oj oj':Oper} {t:Nat} (hj:j<K) (hj':j'<K) (hoj:l[j]? =some oj) (hoj':l[j']? =some oj') (hd:oj.dst=some t) (hd':oj'.dst=some t):j=j':=by
 have hc1:=(Bool.and_eq_true_iff.1 hc).1;have hck:=(List.all_eq_true.1 (Bool.and_eq_true_iff.1 hc1).2);have hx:=hck j' (List.mem_range.2 (List.getElem?_eq_some_iff.1 hoj').1);rw [hoj'] at hx;simp only [Bool.and_eq_true] at hx;have h3:=hx.2;rw [if_pos hj'] at h3;simp only [Bool.and_eq_true] at h3;have h3a:=h3.1;rw [hd'] at h3a;simp only [Bool.and_eq_true] at h3a;have h5:=List.all_eq_true.1 h3a.1 j (List.mem_range.2 hj);rw [hoj] at h5;simpa [hd] using h5
theorem uP {i t:Nat} (h:xT l K i t=true):∃ j oj,j<K∧l[j]? =some oj∧oj.dst=some t∧mM l oj i=true:=by
 obtain ⟨j,hj,h2⟩:=List.any_eq_true.1 h;cases hoj:l[j]? with
 |none=>rw [hoj] at h2;cases h2
 |some oj=>
  rw [hoj] at h2;simp only [Bool.and_eq_true,beq_iff_eq] at h2;exact ⟨j,oj,List.mem_range.1 hj,hoj,h2.1,h2.2⟩
theorem jt (hc:ly l K=true) {i t:Nat} {o:Oper} (hi:i<K) (ho:l[i]? =some o) (ht:t∈fR l K i o):(o.looksAt l.toArray).elem t=true∧∃ j oj,j<K∧l[j]? =some oj∧oj.dst=some t∧j<i∧mM l o j=true:=by
 obtain ⟨ht1,ht2⟩:=List.mem_filter.1 ht;simp only [Bool.and_eq_true,Bool.not_eq_true'] at ht2;obtain ⟨oj,hoj,hdj⟩:=List.mem_filterMap.1 ht1;obtain ⟨j,hj⟩:=List.mem_iff_getElem?.1 hoj;rw [List.getElem?_take] at hj;split at hj
 ·rename_i hjK;refine ⟨ht2.1,j,oj,hjK,hj,hdj,?_⟩;have hc1:=(Bool.and_eq_true_iff.1 hc).1;have hck:=(List.all_eq_true.1 (Bool.and_eq_true_iff.1 hc1).2);have hx:=hck i (List.mem_range.2 (List.getElem?_eq_some_iff.1 ho).1);rw [ho] at hx;simp only [Bool.and_eq_true] at hx;have h3:=hx.2;rw [if_pos hi] at h3;simp only [Bool.and_eq_true] at h3;have h5:=List.all_eq_true.1 h3.2 j (List.mem_range.2 hjK);rw [hj] at h5;have h6:t∈o.looksAt l.toArray:=by simpa using ht2.1
  simpa [hdj,h6,ht2.2] using h5
 ·cases hj
theorem qj (hc:ly l K=true) {listed:Array Bool} (hcl:ij l listed) (hs:listed.size=l.length) {i:Nat} {o:Oper} (_ho:l[i]? =some o) (hil:i<l.length) (h0:listed.getD i true=false) {L':List (Nat×Value)}
 (hfr:∀ t,(∀ i o,i<K→l[i]? =some o→listed.getD i true=true→o.dst≠some t)→bF L' t=bF L t):∀ t,(o.looksAt l.toArray).elem t=true→bF ((fR l K i o).map (fun d=>(d,bF L' d))++L) t=bF L' t:=by
 intro t ht;rw [jQ];split
 ·rfl
 ·rename_i hne;refine (hfr t fun j oj hj hoj hlj hd=>?_).symm;have hmem:t∈fP l K:=List.mem_filterMap.2 ⟨oj,List.mem_iff_getElem?.2 ⟨j,by rw [List.getElem?_take,if_pos hj];exact hoj⟩,hd⟩;cases hb:xT l K i t with
  |false=>
   apply hne;simp only [List.elem_eq_mem,decide_eq_true_eq];exact List.mem_filter.2 ⟨hmem,by rw [ht,hb];rfl⟩
  |true=>
   obtain ⟨j',oj',hj',hoj',hd',hdep⟩:=uP hb;have hjj:=zv hc hj hj' hoj hoj' hd hd';subst hjj;rw [hoj] at hoj';cases hoj';have hjl:j<l.length:=(List.getElem?_eq_some_iff.1 hoj).1;have h1:=fF hcl (hcl j oj hoj (by rw [←cd (by omega)];exact hlj)) hdep;rw [←cd (by omega),h0] at h1;cases h1
theorem pO (hQ:PQ Q) (hc:ly l K=true) (hop:mU P l.toArray n L I2 R1 R l K mu 0 (l.take K)) (h12:∀ t v w,R1 t v w→R t v w) (hmuL:mu<K→eI l K mu=false)
 (hend:∀ w',I2 w'→jq R w' (fP l K) fun M=>St P l.toArray Q (l.drop K) n (M++L) w') (m:Nat) (listed:Array Bool) (L':List (Nat×Value)) (w':World) (hcl:ij l listed) (hcount:listed.toList.count false=m) (hs:listed.size=l.length)
 (htail:∀ j,K≤j→j<l.length→listed.getD j true=false) (hF:I2 w')
 (hfr:∀ t,(∀ i o,i<K→l[i]? =some o→listed.getD i true=true→o.dst≠some t)→bF L' t=bF L t)
 (hR:∀ i o d,i<K→l[i]? =some o→listed.getD i true=true→o.dst=some d→R d (bF L' d) w') (hpre:∀ i,i<K→listed.getD i true=false→eI l K i=true):wpAny P .any l.toArray Q m listed (mkA n L') w':=by
 have hc1:=(Bool.and_eq_true_iff.1 hc).1;have hlate:=(Bool.and_eq_true_iff.1 hc).2;have hKl:K≤l.length:=dT_ (Bool.and_eq_true_iff.1 hc1).1;have hck:=(List.all_eq_true.1 (Bool.and_eq_true_iff.1 hc1).2)
 have hhead:∀ i,i<K→∃ o d,l[i]? =some o∧o.dst=some d∧dQ o.op=false∧(∀ j oj,j<K→j≠i→l[j]? =some oj→oj.dst≠some d):=by
  intro i hi;have hil:i<l.length:=by omega
  have hx:=hck i (List.mem_range.2 hil);rw [List.getElem?_eq_getElem hil] at hx;simp only [Bool.and_eq_true] at hx;have h3:=hx.2;rw [if_pos hi] at h3;simp only [Bool.and_eq_true] at h3;obtain ⟨h3a,h3b⟩:=h3;cases hod:(l[i]).dst with
  |none=>rw [hod] at h3a;cases h3a
  |some d=>
   rw [hod] at h3a;simp only [Bool.and_eq_true] at h3a;refine ⟨l[i],d,List.getElem?_eq_getElem hil,hod,by simpa using hx.1.2,fun j oj hj hne hoj e=>?_⟩;have h5:=List.all_eq_true.1 h3a.1 j (List.mem_range.2 hj);rw [hoj] at h5;simp [hne,e] at h5
 have hval:∀ i,i<K→listed.getD i true=false→∃ v,∀ o d,l[i]? =some o→o.dst=some d→Yields P l.toArray o v (mkA n L')∧R d v w':=by
  intro i hi hf;have hil8:=hpre i hi hf;obtain ⟨o,d,ho,hd,hsel,_⟩:=hhead i hi;obtain ⟨hk,hg,hap⟩:=i_ hlate hi ho hil8
  have hfact:∀ t∈fR l K i o,R t (bF L' t) w':=by
   intro t ht;obtain ⟨ht2,j,oj,hjK,hj,hdj,hji,_⟩:=jt hc hi ho ht;refine hR j oj t hjK hj ?_ hdj;cases hb:listed.getD j true with
   |true=>rfl
   |false=>
    have h6:=hpre j hjK hb;have h7:=(Oper.apart_spec (hap j oj hj (by omega) (.inl ⟨hjK,h6⟩))).2.2 t hdj;exact absurd (by simpa using ht2) h7
  have hlooks:=qj (L:=L) hc hcl hs ho (by omega) hf hfr;have hok:=gj (bF L') _ hfact (oo hop i o (by rw [List.getElem?_take,if_pos hi];exact ho) (by intro e;rw [e,hmuL (by omega)] at hil8;cases hil8) w' hF);obtain ⟨hE,hW⟩:=fN (n:=n) (ops:=l.toArray) (o:=o) hsel hlooks;rw [hd] at hok;simp only [Option.getD_some] at hok
  have hyl:∃ v,Yields P l.toArray o v (mkA n L')∧R d v w':=by
   unfold av at hok;rw [hE,hW] at hok;rcases hok with ⟨hw,⟨v,w'',hr,hF',hRv⟩ | ⟨f,args,hr,hcall⟩⟩ | ⟨hw,hRv⟩
   ·obtain ⟨rfl,hall⟩:=rC hk hr;refine ⟨v,.inl ⟨hw,fun w2=>?_⟩,h12 _ _ _ hRv⟩;rw [dB];exact hall w2
   ·exfalso;obtain ⟨dst,op,ty,pos,after,guard⟩:=o;cases op <;> simp only [oz,Bool.false_eq_true] at hk <;> simp only [execOp,Sem.run_pure,Sem.run_bind,Result.ok.injEq] at hr
    ·cases hr.1
    ·cases hr.1
    ·rename_i x i';cases hx:ev n L' x <;> simp only [hx,Instr.extract] at hr <;> (try (simp at hr;done))
     rename_i vs;cases hv:vs[i']? <;> simp [hv] at hr
   ·exact ⟨undef,.inr ⟨hw,rfl⟩,h12 _ _ _ hRv⟩
  obtain ⟨v,hv1,hv2⟩:=hyl;refine ⟨v,fun o' d' ho' hd'=>?_⟩;rw [ho] at ho';cases ho';rw [hd] at hd';cases hd';exact ⟨hv1,hv2⟩
 obtain ⟨f,hf⟩:∃ f:Nat→Value,∀ i,i<K→listed.getD i true=false→∀ o d,l[i]? =some o→o.dst=some d→Yields P l.toArray o (f i) (mkA n L')∧R d (f i) w':=by
  refine ⟨fun i=>open Classical in if h:∃ v,∀ o d,l[i]? =some o→o.dst=some d→Yields P l.toArray o v (mkA n L')∧R d v w' then h.choose else undef,fun i hi hl=>?_⟩;have h:=hval i hi hl;simp only [dif_pos h];exact h.choose_spec
 have hUm:∀ i,i∈(List.range K).filter (fun i=> !listed.getD i true)↔i<K∧listed.getD i true=false:=fun i=>by
  rw [List.mem_filter,List.mem_range];simp
 obtain ⟨U,hU,hUn⟩:∃ U:List Nat,(∀ i,i∈U↔i<K∧listed.getD i true=false)∧U.Nodup:=⟨_,hUm,List.nodup_range.sublist (List.filter_sublist ..)⟩;have hbind:∀ {i:Nat} {o:Oper},l[i]? =some o→(l[i]?).bind (·.dst)=o.dst:=fun h=>by rw [h];rfl
 have hRall:∀ d∈fP l K,R d (bF ((U.filterMap fun i=>((l[i]?).bind (·.dst)).map fun d=>(d,f i))++L') d) w':=by
  intro d hd;obtain ⟨o,ho,hod⟩:=List.mem_filterMap.1 hd;obtain ⟨i,hi⟩:=List.mem_iff_getElem?.1 ho;rw [List.getElem?_take] at hi;split at hi
  ·rename_i hiK;obtain ⟨o',d',ho',hd',_,hdist⟩:=hhead i hiK;rw [hi] at ho';cases ho';rw [hod] at hd';cases hd'
   have hne:∀ j∈U,j≠i→(l[j]?).bind (·.dst)≠some d:=fun j hj hji=>by
    have hjK:=((hU j).1 hj).1;obtain ⟨oj,dj,hoj,_⟩:=hhead j hjK;rw [hbind hoj];exact hdist j oj hjK hji hoj
   cases hb:listed.getD i true with
   |true=>
    rw [iN U fun j hj=>hne j hj (fun e=>by subst e;have:=((hU j).1 hj).2;rw [hb] at this;cases this)];exact hR i o d hiK hi hb hod
   |false=>
    rw [ka U ((hU i).2 ⟨hiK,hb⟩) ((hbind hi).trans hod) hne];exact (hf i hiK hb o d hi hod).2
  ·cases hi
 have he:=gj _ (fP l K) hRall (hend w' hF)
 have hL:mkA n ((fP l K).map (fun d=>(d,bF ((U.filterMap fun i=>((l[i]?).bind (·.dst)).map fun d=>(d,f i))++L') d))++L)=iG l f U (mkA n L'):=by
  rw [og];refine gW fun t _=>?_
  rw [jQ];split
  ·rfl
  ·rename_i hne
   have hnd:∀ i,i<K→∀ o,l[i]? =some o→o.dst≠some t:=fun i hi o ho hod=>hne (by
    simp only [List.elem_eq_mem,decide_eq_true_eq];exact List.mem_filterMap.2 ⟨o,List.mem_iff_getElem?.2 ⟨i,by rw [List.getElem?_take,if_pos hi];exact ho⟩,hod⟩)
   rw [iN U fun j hj=>by
    have hjK:=((hU j).1 hj).1;obtain ⟨oj,dj,hoj,_⟩:=hhead j hjK;rw [hbind hoj];exact hnd j hjK oj hoj]
   exact (hfr t fun i o hi ho _ hod=>hnd i hi o ho hod).symm
 replace he:=he.out;rw [hL] at he;refine nP hQ hc m K listed U _ w' hcl hcount hs (Nat.le_refl _) hKl (fun j h1 h2=>by rw [htail j h1 h2];simp [h1]) hUn (fun j hj=>⟨fun h=>(hU j).2 ⟨hj,h⟩,fun h=>((hU j).1 h).2⟩) (fun j hj=>?_) he;obtain ⟨h1,h2⟩:=(hU j).1 hj;obtain ⟨oj,dj,hoj,hdj,_⟩:=hhead j h1;exact ⟨h1,hpre j h1 h2,oj,hoj,(hf j h1 h2 oj dj hoj hdj).1⟩
theorem xV (hQ:PQ Q) (hc:ly l K=true) (hm1:∀ w1 w2,ai w1 w2→I1 w1→I1 w2) (hm2:∀ w1 w2,ai w1 w2→I2 w1→I2 w2) (hmono1:∀ t v w1 w2,ai w1 w2→R1 t v w1→R1 t v w2) (hmono:∀ t v w1 w2,ai w1 w2→R t v w1→R t v w2)
 (hop:mU P l.toArray n L I2 R1 R l K mu 0 (l.take K)) (h12:∀ t v w,R1 t v w→R t v w) (hmuL:mu<K→eI l K mu=false) (hmu:yA P l.toArray n L I1 I2 R1 R l K mu l[mu]?)
 (hend:∀ w',I2 w'→jq R w' (fP l K) fun M=>St P l.toArray Q (l.drop K) n (M++L) w') :
 ∀ (m:Nat) (listed:Array Bool) (L':List (Nat×Value)) (w':World),ij l listed→listed.toList.count false=m→listed.size=l.length→(∀ j,K≤j→j<l.length→listed.getD j true=false)→I2 w'→(listed.getD mu true=false→I1 w')→
  (∀ t,(∀ i o,i<K→l[i]? =some o→listed.getD i true=true→o.dst≠some t)→bF L' t=bF L t)→
  (∀ i o d,i<K→l[i]? =some o→listed.getD i true=true→o.dst=some d→R d (bF L' d) w')→(listed.getD mu true=false→∀ i o d,i<K→l[i]? =some o→listed.getD i true=true→o.dst=some d→R1 d (bF L' d) w')→wpAny P .any l.toArray Q m listed (mkA n L') w':=by
 have hc1:=(Bool.and_eq_true_iff.1 hc).1;have hlate:=(Bool.and_eq_true_iff.1 hc).2;have hKl:K≤l.length:=dT_ (Bool.and_eq_true_iff.1 hc1).1;have hck:=(List.all_eq_true.1 (Bool.and_eq_true_iff.1 hc1).2);intro m
 induction m with
 |zero=>
  intro listed L' w' hcl hcount hs htail hF hF1 hfr hR hR1
  exact pO hQ hc hop h12 hmuL hend 0 listed L' w' hcl hcount hs htail hF hfr hR (fun i hi h=>by
   have hm:listed[i]'(by omega)∈listed.toList:=by simp
   have hb:listed[i]'(by omega)=false:=by simpa [Array.getD,show i<listed.size by omega] using h
   rw [hb] at hm;exact absurd hcount (Nat.pos_iff_ne_zero.1 (List.count_pos_iff.2 hm)))
 |succ m ih=>
  intro listed L' w' hcl hcount hs htail hF hF1 hfr hR hR1;by_cases hpre:∀ i,i<K→listed.getD i true=false→eI l K i=true
  ·exact pO hQ hc hop h12 hmuL hend (m+1) listed L' w' hcl hcount hs htail hF hfr hR hpre
  ·
   have hn0:∃ i,i<K∧listed.getD i true=false∧eI l K i=false:=by
    refine Classical.byContradiction fun hno=>hpre fun i hi hf=>?_
    cases hb:eI l K i with
    |true=>rfl
    |false=>exact absurd ⟨i,hi,hf,hb⟩ hno
   obtain ⟨n0,hn0⟩:=hn0;obtain ⟨i0,hi0,hmin⟩:=exists_least (p:=fun i=>i<K∧listed.getD i true=false) ⟨n0,hn0.1,hn0.2.1⟩;have hi0l:i0<l.length:=by omega
   have hready:i0∈Region.ready .any l.toArray listed:=by
    refine mem_ready.2 ⟨hi0.2,l[i0],by rw [List.getElem?_toArray,List.getElem?_eq_getElem hi0l],fun e he hb=>?_⟩;have hx:=hck i0 (List.mem_range.2 hi0l);rw [List.getElem?_eq_getElem hi0l] at hx;simp only [Bool.and_eq_true] at hx;have he2:=List.all_eq_true.1 hx.1.1 e (by simpa using he);rw [hb] at he2;simp at he2;rw [←cd (by omega)];cases hb2:listed.getD e.on true with
    |true=>rfl
    |false=>exact absurd (hmin e.on ⟨by omega,hb2⟩) (by omega)
   refine ⟨fun h0=>(by rw [h0] at hready;cases hready),fun i hi=>?_⟩;obtain ⟨h0,o,ho,hall⟩:=mem_ready.1 hi;rw [List.getElem?_toArray] at ho;have hil:i<l.length:=(List.getElem?_eq_some_iff.1 ho).1;have hx:=hck i (List.mem_range.2 hil);rw [ho] at hx;simp only [Bool.and_eq_true] at hx
   have hiK:i<K:=by
    rcases Nat.lt_or_ge i K with h | h
    ·exact h
    ·exfalso;have h5:=fF hcl hall (lx hn0.2.2 ho h);rw [←cd (by omega),hn0.2.1] at h5;cases h5
   have h3:=hx.2;rw [if_pos hiK] at h3;simp only [Bool.and_eq_true] at h3;obtain ⟨h3a,h3b⟩:=h3;cases hod:o.dst with
   |none=>rw [hod] at h3a;cases h3a
   |some d=>
    rw [hod] at h3a;simp only [Bool.and_eq_true] at h3a;have hlooks:=qj (L:=L) hc hcl hs ho hil h0 hfr
    have hfactG:∀ (RR:Nat→Value→World→Prop),(∀ i o d,i<K→l[i]? =some o→listed.getD i true=true→o.dst=some d→RR d (bF L' d) w')→∀ t∈fR l K i o,RR t (bF L' t) w':=by
     intro RR hRR t ht;obtain ⟨_,j,oj,hjK,hj,hd,_,hdep⟩:=jt hc hiK ho ht;have h6:=fF hcl hall hdep;exact hRR j oj t hjK hj (by rw [cd (by omega)];exact h6) hd
    have hsel:dQ o.op=false:=by simpa using hx.1.2
    obtain ⟨hE,hW⟩:=fN (n:=n) (ops:=l.toArray) (o:=o) hsel hlooks
    have next:∀ v w'',I2 w''→(i≠mu→listed.getD mu true=false→I1 w'')→R d v w''→(i≠mu→R1 d v w'')→(∀ t u,t≠d→R t u w'→(i=mu→R1 t u w')→R t u w'')→(i≠mu→∀ t u,R1 t u w'→R1 t u w'')→wpAny P .any l.toArray Q m (listed.setIfInBounds i true) ((mkA n L').put (some d) v) w'':=by
     intro v w'' hI2' hI1' hRv hR1v hst hst1;rw [fC]
     have hne:∀ j oj d',j<K→l[j]? =some oj→j≠i→oj.dst=some d'→d'≠d:=by
      intro j oj d' hj hoj hji hd e;have h5:=List.all_eq_true.1 h3a.1 j (List.mem_range.2 hj);rw [hoj] at h5;simp [hji,hd,e] at h5
     refine ih _ _ w'' (ke hcl ho hall) ?_ (by simpa using hs) (fun j hj1 hj2=>?_) hI2' (fun hml=>?_) (fun t ht=>?_) (fun j oj d' hj hoj hlj hd=>?_) (fun hml j oj d' hj hoj hlj hd=>?_)
     ·have hil':i<listed.size:=by omega
      have hfalse:listed.toList[i]? =some false:=by
       rw [Array.getElem?_toList,Array.getElem?_eq_getElem hil'];simp [Array.getD,hil'] at h0;rw [h0]
      rw [Array.toList_setIfInBounds];have:=eW (l:=listed.toList) (i:=i) hfalse;omega
     ·rw [getD_set_ne true (by omega)];exact htail j hj1 hj2
     ·have him:i≠mu:=fun e=>by subst e;simp [show i<listed.size by omega] at hml
      rw [getD_set_ne true him] at hml;exact hI1' him hml
     ·have htd:t≠d:=fun e=>ht i o hiK ho (by simp [show i<listed.size by omega]) (by rw [hod,e])
      rw [cV,if_neg htd];refine hfr t fun j oj hj hoj hlj=>ht j oj hj hoj ?_
      by_cases e:i=j
      ·subst e;rw [h0] at hlj;cases hlj
      ·rw [getD_set_ne true e];exact hlj
     ·rw [cV];by_cases e:j=i
      ·subst e;rw [ho] at hoj;cases hoj;rw [hod] at hd;cases hd;rw [if_pos rfl];exact hRv
      ·have hdd:=hne j oj d' hj hoj e hd;rw [if_neg hdd];rw [getD_set_ne true (Ne.symm e)] at hlj;refine hst _ _ hdd (hR j oj d' hj hoj hlj hd) (fun e2=>?_);subst e2;exact hR1 h0 j oj d' hj hoj hlj hd
     ·have him:i≠mu:=fun e=>by subst e;simp [show i<listed.size by omega] at hml
      rw [getD_set_ne true him] at hml;rw [cV];by_cases e:j=i
      ·subst e;rw [ho] at hoj;cases hoj;rw [hod] at hd;cases hd;rw [if_pos rfl];exact hR1v him
      ·rw [if_neg (hne j oj d' hj hoj e hd)];rw [getD_set_ne true (Ne.symm e)] at hlj;exact hst1 him _ _ (hR1 hml j oj d' hj hoj hlj hd)
    unfold wpOp;rw [List.getElem?_toArray,ho];show if Region.wanted o (yielded l.toArray (mkT n.n L'))=true then _ else _
    by_cases him:i=mu
    ·subst him;rw [ho] at hmu;have hok:=gj (bF L') _ (hfactG R1 (hR1 h0)) (hmu w' (hF1 h0));rw [hod] at hok;simp only [Option.getD_some] at hok;unfold u_ at hok;rw [hE,hW] at hok;obtain ⟨hw,⟨v,w'',hr,hI,hRv,hst⟩ | ⟨f,args,hr,hcall⟩⟩:=hok
     ·rw [if_pos hw];refine .inl ?_;unfold Oper.wp;rw [dB,hr,Oper.upon_value,hod];exact next v w'' hI (fun h=>absurd rfl h) hRv (fun h=>absurd rfl h) (fun t u ht _ h1=>hst t u ht (h1 rfl)) (fun h=>absurd rfl h)
     ·rw [if_pos hw];refine .inl ?_;unfold Oper.wp;rw [dB,hr,Oper.upon_enter,hod];refine Calls.mono hcall fun e w'' ⟨v,he,hI,hRv,hst⟩=>?_
      subst he;exact next v w'' hI (fun h=>absurd rfl h) hRv (fun h=>absurd rfl h) (fun t u ht _ h1=>hst t u ht (h1 rfl)) (fun h=>absurd rfl h)
    ·have hok:=gj (bF L') _ (hfactG R hR) (oo hop i o (by rw [List.getElem?_take,if_pos hiK];exact ho) him w' hF);rw [hod] at hok;simp only [Option.getD_some] at hok;unfold av at hok;rw [hE,hW] at hok
     have next':∀ v w'',ai w' w''→R1 d v w''→wpAny P .any l.toArray Q m (listed.setIfInBounds i true) ((mkA n L').put (some d) v) w'':=fun v w'' hF' hRv=>
      next v w'' (hm2 _ _ hF' hF) (fun _ h=>hm1 _ _ hF' (hF1 h)) (h12 _ _ _ hRv) (fun _=>hRv) (fun t u _ h _=>hmono _ _ _ _ hF' h) (fun _ t u h=>hmono1 _ _ _ _ hF' h)
     rcases hok with ⟨hw,⟨v,w'',hr,hF',hRv⟩ | ⟨f,args,hr,hcall⟩⟩ | ⟨hw,hRv⟩
     ·rw [if_pos hw];refine .inl ?_;unfold Oper.wp;rw [dB,hr,Oper.upon_value,hod];exact next' v w'' hF' hRv
     ·rw [if_pos hw];refine .inl ?_;unfold Oper.wp;rw [dB,hr,Oper.upon_enter,hod];refine Calls.mono hcall fun e w'' ⟨v,he,hF',hRv⟩=>?_
      subst he;exact next' v w'' hF' hRv
     ·rw [if_neg (by rw [hw];simp),hod];exact next' undef w' ai.rfl_ hRv
theorem bK {id:Nat} (K:Nat) (RL:List (Nat×(Value→World→Prop))) (hQ:PQ Q) (hm:P.follows .mixedOrders=true) (hc:ly l K=true) (hmono:p6 RL)
 (hop:mU P l.toArray n L (ai w) (gR RL) (gR RL) l K l.length 0 (l.take K)) (hend:∀ w',ai w w'→jq (gR RL) w' (fP l K) fun M=>St P l.toArray Q (l.drop K) n (M++L) w'):Cd P (.region id l.toArray true) Q n L w:=by
 refine ⟨wp_region_any hm ?_⟩;have hKl:K≤l.length:=dT_ (Bool.and_eq_true_iff.1 (Bool.and_eq_true_iff.1 hc).1).1
 have:=xV (Q:=Q) (mu:=l.length) (I1:=ai w) (I2:=ai w) (R1:=gR RL) hQ hc (fun _ _ hF h=>h.next hF) (fun _ _ hF h=>h.next hF) (gY hmono) (gY hmono) hop (fun _ _ _ h=>h) (fun h=>absurd h (by omega)) (by simp [yA]) hend l.length (Array.replicate l.length false) L { w with drawn:=w.drawn+1 } (ng l _) (by simp) (by simp)
  (fun j _ hj=>by simp [Array.getD,hj]) ai.rfl_.d1 (fun _=>ai.rfl_.d1) (fun _ _=>rfl) (fun i o d hi _ hl=>by
   have:i<l.length:=by omega
   simp [Array.getD,this] at hl) (fun _ i o d hi _ hl=>by
   have:i<l.length:=by omega
   simp [Array.getD,this] at hl)
 simpa using this
end late
end Go.Proofs.YtkpooenofjdpmaaGreat
namespace Go.Proofs.YtkpooenofjdpmaaGreat
open Go.Proofs.Tryz (prog)
open Go.RowKit
theorem fe {w:World} {bs e s n c m:Nat} {A:Option Addr} {l:List Value} (h:w.ownsRow bs e s (.slice A n c) m l):∀ k,A.map (·.block)=some k→bs≤k∧k<w.heap.size:=fun k hk=>h.lt k (by rw [←hk];cases A <;> rfl)
end Go.Proofs.YtkpooenofjdpmaaGreat
namespace Go.Proofs.YtkpooenofjdpmaaGreat
open Go.Proofs.Tryz (prog)
open Go.RowKit
section
variable {P:Program} {ops:Array Oper} {Q:Exit→Act→World→Prop} {rest:List Oper} {n:Fr} {L:List (Nat×Value)} {w:World} {ty:TypeId} {pos:String} {after:Array Edge} {d:Nat} {x:Operand}
theorem rh {ρ:Operand→Value} {f:FuncId} {l1 l2:List Operand}:RO P ρ (.makeFunc (.func f) l1.toArray l2.toArray) w (.func (.func f) (l1.map ρ).toArray (l2.map ρ).toArray) w:=fun _ _ _ _ _=>by
 simp [execOp,Instr.makeFunc]
end
end Go.Proofs.YtkpooenofjdpmaaGreat
namespace Go.Proofs.YtkpooenofjdpmaaGreat
open Go.Proofs.Tryz (prog)
open Go.RowKit Go.ChangeShapes Go.WideShapes Go.ChangeAt
theorem iH {P:Program} {ops:Array Oper} {n:Fr} {L:List (Nat×Value)} {w:World} {op:Op} {ty:TypeId} {pos:String} {after:Array Edge} {d:Option Nat} {R:Value→World→Prop} {j:Nat} {b:Bool} (hg:jr ops n L j=undef) (hR:R undef w):av P ops n L ⟨d,op,ty,pos,after,some (j,b)⟩ w R:=
 .inr ⟨by show (yielded ops (mkT n.n L) j==some b)=false;rw [lr hg];rfl,hR⟩
theorem k9 {w:World} {base e s n c m g t:Nat} {A:Option Addr} {xs:List Value} {cs:Array Value} (h:w.ownsRow base e s (.slice A n c) m xs) (hb:Blk w g t cs) (hne:t≠e):∀ k,A.map (·.block)=some k→k≠g:=by
 rintro k hk rfl;rcases h.2 with ⟨h0,_⟩ | ⟨g',cap,cur,hv,hg,hh,r⟩
 ·simp only [Value.slice.injEq] at h0;rw [h0.1] at hk;cases hk
 ·simp only [Value.slice.injEq] at hv;rw [hv.1] at hk;simp only [Option.map_some,Option.some.injEq] at hk;subst hk;unfold Blk at hb;rw [hh] at hb;simp only [Option.some.injEq,Obj.cells.injEq] at hb;exact hne hb.2.1.symm
theorem gC {w w':World} {base e s n c g:Nat} {A:Option Addr} {xs:List Value} (h:w.ownsRow base e s (.slice A n c) n xs) (o:fc g w w') (hne:∀ k,A.map (·.block)=some k→k≠g):w'.ownsRow base e s (.slice A n c) n xs:=by
 refine ⟨h.1,?_⟩;rcases h.2 with h2 | ⟨g',cap,cur,hv,hg,hh,r⟩
 ·exact .inl h2
 ·refine .inr ⟨g',cap,cur,hv,hg,?_,r⟩;simp only [Value.slice.injEq] at hv;rw [o.block g' (hne g' (by rw [hv.1];rfl))];exact hh
theorem eU {w:World} {base base' size n:Nat} {e:TypeId} {v:Value} {xs:List Value} (h:w.ownsRow base e size v n xs) (hb:base'≤base):w.ownsRow base' e size v n xs:=by
 refine ⟨h.1,?_⟩;rcases h.2 with h0 | ⟨g,cap,cur,hv,hg,r⟩
 ·exact .inl h0
 ·exact .inr ⟨g,cap,cur,hv,by omega,r⟩
theorem qN {H:Type} {enc:TypeId×Value→H} {F:FuncId} {T:TypeId} (t u:Ty) (hf:(Ty.pr t u).fits prog (.inl T)=true)
 (h:∀ (cs:Array Value) (x:(Ty.pr t u).den) (w:World),cs.size=(Ty.pr t u).size→(Ty.pr t u).At w (fun j=>cs[j]?) x→Rt prog F [.agg cs] w fun v w'=>v=.bool true∧ai w w')
 (W:World) (base:Nat) (v:Value) (d:DataW H) (p:List MemPlace) (hok:Value.okWide prog W .any base T v) (ht:DataW.Trod enc prog W 0 (fun _=>true) true T v d p) (hsz:∀ n∈d.weights prog T,n≤140737488351232) :
 Calls prog F #[v] W fun e W'=>e=.returned (.bool true)∧ai W W':=by
 obtain ⟨cs,x,rfl,hs,ha⟩:=zi t u hf hok ht hsz;exact Rt.to (h cs x W hs ha)
end Go.Proofs.YtkpooenofjdpmaaGreat
namespace Go.Proofs.YtkpooenofjdpmaaGreat
open Go.Proofs.Tryz (prog)
open Go.RowKit
section
variable {α:Type} {f:α→List Value} {s:Nat}
theorem l_ (hf:∀ x,(f x).length=s):∀ (L:List α),(L.flatMap f).length=L.length*s
 |[]=>by simp
 |x::r=>by rw [List.flatMap_cons,List.length_append,hf,l_ hf r,List.length_cons,Nat.succ_mul];omega
theorem pR (hf:∀ x,(f x).length=s):∀ (L:List α) (k:Nat),(L.flatMap f).take (k*s)=(L.take k).flatMap f
 |[],k=>by simp
 |x::r,0=>by simp
 |x::r,k+1=>by
  rw [List.flatMap_cons,List.take_succ_cons,List.flatMap_cons,←pR hf r k,List.take_append,hf];rw [show (k+1)*s-s=k*s by rw [Nat.succ_mul];omega,List.take_of_length_le (by rw [hf,Nat.succ_mul];omega)]
theorem mL (hf:∀ x,(f x).length=s):∀ (L:List α) (k:Nat),(L.flatMap f).drop (k*s)=(L.drop k).flatMap f
 |[],k=>by simp
 |x::r,0=>by simp
 |x::r,k+1=>by
  rw [List.flatMap_cons,List.drop_succ_cons,←mL hf r k,List.drop_append,hf];rw [show (k+1)*s-s=k*s by rw [Nat.succ_mul];omega,List.drop_of_length_le (by rw [hf,Nat.succ_mul];omega),List.nil_append]
theorem tT (hf:∀ x,(f x).length=s) (L:List α) (i:Nat) (hi:i<L.length) (j:Nat) (hj:j<s):(L.flatMap f)[i*s+j]? =(f L[i])[j]? :=by
 have h1:((L.flatMap f).drop (i*s))[j]? =(L.flatMap f)[i*s+j]? :=by rw [List.getElem?_drop]
 rw [←h1,mL hf,List.drop_eq_getElem_cons hi,List.flatMap_cons,List.getElem?_append_left (by rw [hf];exact hj)]
theorem wD {L:List α} (h:∀ x∈L,∀ u∈f x,u.oneCell'=true):∀ u∈L.flatMap f,u.oneCell'=true:=fun u hu=>by
 obtain ⟨x,hx,hu⟩:=List.mem_flatMap.1 hu;exact h x hx u hu
def im (s:Nat) (f:α→List Value) (w:World) (A:Option Addr) (L:List α):Prop:=0<L.length→∃ b o,A=some ⟨b,o,none⟩∧∀ i (h:i<L.length),w.rangeAt b (o+i*s) (f L[i])
theorem im.from_ {w w':World} {A:Option Addr} {L:List α} (h:im s f w A L) (hF:ai w w'):im s f w' A L:=fun h0=>
 let ⟨b,o,hA,hc⟩:=h h0
 ⟨b,o,hA,fun i hi=>eB hF (hc i hi)⟩
theorem im.flat (hf:∀ x,(f x).length=s) {w:World} {A:Option Addr} {L:List α} (h:im s f w A L):0<L.length→∃ b o,A=some ⟨b,o,none⟩∧w.rangeAt b o (L.flatMap f):=fun h0=>by
 obtain ⟨b,o,hA,hc⟩:=h h0;refine ⟨b,o,hA,fun j v hv=>?_⟩
 have hlt:j<L.length*s:=by
  rw [←l_ hf];rcases Nat.lt_or_ge j (L.flatMap f).length with a | a
  ·exact a
  ·rw [List.getElem?_eq_none a] at hv;cases hv
 have hs:0<s:=by
  rcases Nat.eq_zero_or_pos s with h | h
  ·subst h;omega
  ·exact h
 have hi:j/s<L.length:=by rw [Nat.div_lt_iff_lt_mul hs];exact hlt
 have hj:j/s*s+j%s=j:=by rw [Nat.mul_comm];exact Nat.div_add_mod j s
 rw [←hj,tT hf L _ hi _ (Nat.mod_lt _ hs)] at hv;have:=hc _ hi _ v hv
 rwa [Nat.add_assoc,hj] at this
theorem im.own (hf:∀ x,(f x).length=s) (hs:0<s) {w:World} {base e n c:Nat} {A:Option Addr} {L:List α} (h:w.ownsRow base e s (.slice A n c) n (L.flatMap f)):L.length=n∧im s f w A L:=by
 have hn:L.length=n:=by
  have:=h.1;rw [l_ hf] at this;exact Nat.eq_of_mul_eq_mul_right hs this
 refine ⟨hn,fun h0=>?_⟩;obtain ⟨g,rfl⟩:=fK h (by omega);refine ⟨g,0,rfl,fun i hi j v hv=>?_⟩
 have hj:j<s:=by
  rw [←hf L[i]];rcases Nat.lt_or_ge j (f L[i]).length with a | a
  ·exact a
  ·rw [List.getElem?_eq_none a] at hv;cases hv
 have hlt:i*s+j<n*s:=by
  have:(i+1)*s≤n*s:=Nat.mul_le_mul_right s (by omega);rw [Nat.succ_mul] at this;omega
 rw [Nat.zero_add,h.cellAt _ hlt,tT hf L i hi j hj];exact hv
end
theorem nE {w:World} {base e size n c:Nat} {A:Option Addr} {xs:List Value} (h:w.ownsRow base e size (.slice A n c) n xs) (hn:0<n) :
 ∃ g cur,A=some ⟨g,0,none⟩∧base≤g∧Blk w g e (List.toArray cur)∧n≤c∧c≤maxLen∧cur.length=c*size∧cur.take (n*size)=xs:=by
 rcases h.2 with ⟨_,h0⟩ | ⟨g,cap,cur,hv,hg,hh,h1,h2,h3,h4⟩
 ·omega
 ·simp only [Value.slice.injEq,true_and] at hv;obtain ⟨rfl,rfl⟩:=hv;exact ⟨g,cur.toList,rfl,hg,by simpa [Blk] using hh,h1,h2,by simpa using h3,h4⟩
theorem sC {w:World} {base e size n c g:Nat} {cur xs:List Value} (hg:base≤g) (hb:Blk w g e cur.toArray) (h1:n≤c) (h2:c≤maxLen) (h3:cur.length=c*size) (h4:cur.take (n*size)=xs) :
 w.ownsRow base e size (.slice (some ⟨g,0,none⟩) n c) n xs:=by
 refine ⟨?_,.inr ⟨g,c,cur.toArray,rfl,hg,hb,h1,h2,by simpa using h3,by simpa using h4⟩⟩;rw [←h4,List.length_take,h3];exact Nat.min_eq_left (Nat.mul_le_mul_right _ h1)
theorem vP (cs vs:List Value) (o:Nat) (h:o+vs.length≤cs.length):(iY cs o vs).length=cs.length:=by simp [iY];omega
theorem uO (cs vs:List Value) (o k:Nat) (h:o+vs.length≤k) (hk:k≤cs.length):(iY cs o vs).take k=iY (cs.take k) o vs:=by
 unfold iY;rw [List.take_append,List.take_of_length_le (by simp;omega)];rw [List.take_take,Nat.min_eq_left (by omega),List.drop_take]
 congr 2
 simp;omega
theorem zE (cs:List Value) (o:Nat):iY cs o []=cs:=by simp [iY]
end Go.Proofs.YtkpooenofjdpmaaGreat
namespace Go.Proofs.YtkpooenofjdpmaaGreat
open Go.Proofs.Tryz (prog)
open Go.RowKit
section
variable {P:Program} {ops:Array Oper} {Q:Exit→Act→World→Prop} {rest:List Oper} {n:Fr} {L:List (Nat×Value)} {w:World} {ty:TypeId} {pos:String} {after:Array Edge} {d:Nat} {t:TypeId} {x s:Operand}
theorem xN {ρ:Operand→Value} {e size by_:Nat} {z:Value} (hq:kn P t=some (e,size,by_,z)):RO P ρ (.buildSlice t 0 #[]) w (.slice (some ⟨w.heap.size,0,none⟩) 0 0) (w.alloc (.cells #[] e)):=fun _ _ _ _ _=>by
 obtain ⟨i,hu,hi,hs,_,hz⟩:=qk hq;simp [execOp,Instr.buildSlice,run_underlying hu,sizeOf,typeInfo,hi,Instr.fill,newRow];have:(Array.range 0)=#[]:=by simp [Array.range]
 rw [this,Array.map_empty]
theorem tH {e size by_:Nat} {z:Value} (hq:kn P t=some (e,size,by_,z)) (base:Nat) (hbs:base≤w.heap.size) (k:∀ g w',ai w w'→g=w.heap.size→w'.ownsRow base e size (.slice (some ⟨g,0,none⟩) 0 0) 0 []→St P ops Q rest n ((d,.slice (some ⟨g,0,none⟩) 0 0)::L) w') :
 St P ops Q (⟨some d,.buildSlice t 0 #[],ty,pos,after,none⟩::rest) n L w:=
 ab (xN hq) (k _ _ (ai.rfl_.new _) rfl ⟨by simp,.inr ⟨w.heap.size,0,#[],rfl,hbs,heap_alloc_new w _,Nat.le_refl _,by decide,by simp,by simp⟩⟩)
theorem nY {ρ:Operand→Value} {e yt:TypeId} {y:Operand} {a:Option Addr} {m c:Nat} (ht:P.underlying t=some (.slice e)) (hx:ρ x=.slice a m c) (hy:ρ y=.slice none 0 0):RO P ρ (.binOp .eql t x y yt) w (.bool a.isNone) w:=
 mw hx hy (by unfold eqGuard;cases a <;> rfl) (run_eql_slice_nil w t e a m c ht)
end
theorem vO {w w':World} {base e size n c g o:Nat} {xs vs:List Value} (h:w.ownsRow base e size (.slice (some ⟨g,0,none⟩) n c) n xs) (hn:0<n) (hv:o+vs.length≤n*size) (hb:∀ cur,Blk w g e (List.toArray cur)→o+vs.length≤cur.length→Blk w' g e (iY cur o vs).toArray) :
 w'.ownsRow base e size (.slice (some ⟨g,0,none⟩) n c) n (iY xs o vs):=by
 obtain ⟨g',cur,hA,hg,hbk,h1,h2,h3,h4⟩:=nE h hn;simp only [Option.some.injEq,Addr.mk.injEq,and_true] at hA;subst hA;have hle:n*size≤cur.length:=by rw [h3];exact Nat.mul_le_mul_right _ h1
 refine sC hg (hb cur hbk (by omega)) h1 h2 ?_ ?_
 ·rw [vP _ _ _ (by omega),h3]
 ·rw [uO _ _ _ _ hv hle,h4]
section
variable {P:Program} {ops:Array Oper} {Q:Exit→Act→World→Prop} {rest:List Oper} {n:Fr} {L:List (Nat×Value)} {w:World} {ty:TypeId} {pos:String} {after:Array Edge} {t:TypeId} {x y:Operand}
theorem lF {base e size m c g o:Nat} {xs vs:List Value} (ht:eg P t=some vs.length) (hx:ev n L x=.pointer (some ⟨g,o,none⟩)) (hy:ev n L y=.agg vs.toArray) (h1:∀ v∈vs,v.oneCell'=true)
 (ho:w.ownsRow base e size (.slice (some ⟨g,0,none⟩) m c) m xs) (hm:0<m) (hi:o+vs.length≤m*size)
 (k:∀ w',fc g w w'→w'.ownsRow base e size (.slice (some ⟨g,0,none⟩) m c) m (iY xs o vs)→St P ops Q rest n L w'):St P ops Q (⟨none,.store t x y,ty,pos,after,none⟩::rest) n L w:=by
 obtain ⟨g',cur,hA,hg,hbk,h2,h3,h4,h5⟩:=nE ho hm;simp only [Option.some.injEq,Addr.mk.injEq,and_true] at hA;subst hA;have hle:m*size≤cur.length:=by rw [h4];exact Nat.mul_le_mul_right _ h2
 refine ky (mq ht hx hy h1 (hbk.there o vs.length (by simp;omega))) (k _ (fc.sets vs o w) ?_);exact vO ho hm hi fun cur' hb' hl=>Blk.sets vs o hb' hl
theorem sw {base e size m c g o:Nat} {xs:List Value} {v:Value} (ht:eg P t=some 1) (hx:ev n L x=.pointer (some ⟨g,o,none⟩)) (hy:ev n L y=v) (h1:v.oneCell'=true)
 (ho:w.ownsRow base e size (.slice (some ⟨g,0,none⟩) m c) m xs) (hi:o<m*size)
 (k:∀ w',fc g w w'→w'.ownsRow base e size (.slice (some ⟨g,0,none⟩) m c) m (xs.set o v)→St P ops Q rest n L w'):St P ops Q (⟨none,.store t x y,ty,pos,after,none⟩::rest) n L w:=by
 have hlen:xs.length=m*size:=ho.1;have hc:w.cell? ⟨g,o,none⟩=some (xs[o]'(by omega)):=by rw [ho.cellAt o hi];simp [hlen,hi]
 exact ky (lR ht hx hy h1 hc (ho.frozenAt o)) (k _ (fc.setCell w g o v) (ho.stored o v).1)
end
section
variable {α:Type} {f:α→List Value} {s:Nat}
theorem pE (hf:∀ x,(f x).length=s) (L:List α) (i:Nat) (hi:i<L.length) (x:α):iY (L.flatMap f) (i*s) (f x)=(L.set i x).flatMap f:=by
 unfold iY;rw [pR hf,hf,←Nat.succ_mul,mL hf]
 conv=>rhs;rw [List.set_eq_take_append_cons_drop,if_pos hi]
 simp
end
end Go.Proofs.YtkpooenofjdpmaaGreat
namespace Go.Proofs.YtkpooenofjdpmaaGreat
open Go.Proofs.Tryz (prog)
open Go.RowKit
end Go.Proofs.YtkpooenofjdpmaaGreat
namespace Go.Proofs.YtkpooenofjdpmaaGreat
open Go.Proofs.Tryz (prog)
open Go.RowKit
def nf (l:List Oper) (K mu i:Nat):Bool:=Nat.blt mu K&&match l[mu]? with | some om=>mM l om i | none=>false
theorem oI {l:List Oper} {K mu i:Nat} (h:nf l K mu i=true):mu<K∧∃ om,l[mu]? =some om∧mM l om i=true:=by
 unfold nf at h;rw [Bool.and_eq_true] at h;refine ⟨Nat.le_of_ble_eq_true h.1,?_⟩;have h2:=h.2;split at h2
 ·rename_i om hom;exact ⟨om,hom,h2⟩
 ·cases h2
def lL (P:Program) (ops:Array Oper) (n:Fr) (L:List (Nat×Value)) (I1 I2:World→Prop) (R1 R2:Nat→Value→World→Prop) (l0:List Oper) (K:Nat) (mu:Nat):Nat→List Oper→Prop
 |_,[]=>True
 |i,o::r=>(Nat.beq i mu=false→match nf l0 K mu i with
   |true=>∀ w',I1 w'→jq R1 w' (fR l0 K i o) fun M=>av P ops n (M++L) o w' (R1 (o.dst.getD 0))
   |false=>∀ w',I2 w'→jq R2 w' (fR l0 K i o) fun M=>av P ops n (M++L) o w' (R1 (o.dst.getD 0)))∧lL P ops n L I1 I2 R1 R2 l0 K mu (i+1) r
theorem mD {P:Program} {ops:Array Oper} {n:Fr} {L:List (Nat×Value)} {I1 I2:World→Prop} {R1 R2:Nat→Value→World→Prop} {l0:List Oper} {K mu:Nat}:∀ {l:List Oper} {k:Nat},lL P ops n L I1 I2 R1 R2 l0 K mu k l→∀ (i:Nat) (o:Oper),l[i]? =some o→k+i≠mu→
 match nf l0 K mu (k+i) with
  |true=>∀ w',I1 w'→jq R1 w' (fR l0 K (k+i) o) fun M=>av P ops n (M++L) o w' (R1 (o.dst.getD 0))
  |false=>∀ w',I2 w'→jq R2 w' (fR l0 K (k+i) o) fun M=>av P ops n (M++L) o w' (R1 (o.dst.getD 0))
 |[],_,_,i,o,h,_=>by simp at h
 |x::r,k,⟨h1,h2⟩,0,o,h,hne=>by
  simp only [List.getElem?_cons_zero,Option.some.injEq] at h;subst h;rw [Nat.add_zero] at hne ⊢;refine h1 ?_;rw [←Bool.not_eq_true];intro hb;exact hne (Nat.eq_of_beq_eq_true hb)
 |x::r,k,⟨h1,h2⟩,i+1,o,h,hne=>by
  have:=mD h2 i o (by simpa using h) (by omega)
  rwa [show k+1+i=k+(i+1) by omega] at this
theorem oi {P:Program} {ops:Array Oper} {n:Fr} {L:List (Nat×Value)} {I1 I2:World→Prop} {R1 R2:Nat→Value→World→Prop} {l0:List Oper} {K mu:Nat} {l:List Oper} (h:lL P ops n L I1 I2 R1 R2 l0 K mu 0 l) (i:Nat) (o:Oper) (ho:l[i]? =some o) (hne:i≠mu) (hd:nf l0 K mu i=false)
 (w':World) (hw:I2 w'):jq R2 w' (fR l0 K i o) fun M=>av P ops n (M++L) o w' (R1 (o.dst.getD 0)):=by
 have:=mD h i o ho (by rw [Nat.zero_add];exact hne);rw [Nat.zero_add,hd] at this;exact this w' hw
theorem sE {P:Program} {ops:Array Oper} {n:Fr} {L:List (Nat×Value)} {I1 I2:World→Prop} {R1 R2:Nat→Value→World→Prop} {l0:List Oper} {K mu:Nat} {l:List Oper} (h:lL P ops n L I1 I2 R1 R2 l0 K mu 0 l) (i:Nat) (o:Oper) (ho:l[i]? =some o) (hne:i≠mu) (hd:nf l0 K mu i=true)
 (w':World) (hw:I1 w'):jq R1 w' (fR l0 K i o) fun M=>av P ops n (M++L) o w' (R1 (o.dst.getD 0)):=by
 have:=mD h i o ho (by rw [Nat.zero_add];exact hne);rw [Nat.zero_add,hd] at this;exact this w' hw
section late
variable {P:Program} {Q:Exit→Act→World→Prop} {n:Fr} {L:List (Nat×Value)} {w:World} {l:List Oper} {K mu:Nat} {I1 I2:World→Prop} {R1 R:Nat→Value→World→Prop}
theorem pN (hQ:PQ Q) (hc:ly l K=true) (hop:lL P l.toArray n L I1 I2 R1 R l K mu 0 (l.take K)) (h12:∀ t v w,R1 t v w→R t v w) (hmuL:mu<K→eI l K mu=false)
 (hend:∀ w',I2 w'→jq R w' (fP l K) fun M=>St P l.toArray Q (l.drop K) n (M++L) w') (m:Nat) (listed:Array Bool) (L':List (Nat×Value)) (w':World) (hcl:ij l listed) (hcount:listed.toList.count false=m) (hs:listed.size=l.length)
 (htail:∀ j,K≤j→j<l.length→listed.getD j true=false) (hF:I2 w')
 (hfr:∀ t,(∀ i o,i<K→l[i]? =some o→listed.getD i true=true→o.dst≠some t)→bF L' t=bF L t)
 (hR:∀ i o d,i<K→l[i]? =some o→listed.getD i true=true→o.dst=some d→R d (bF L' d) w') (hpre:∀ i,i<K→listed.getD i true=false→eI l K i=true):wpAny P .any l.toArray Q m listed (mkA n L') w':=by
 have hc1:=(Bool.and_eq_true_iff.1 hc).1;have hlate:=(Bool.and_eq_true_iff.1 hc).2;have hKl:K≤l.length:=dT_ (Bool.and_eq_true_iff.1 hc1).1;have hck:=(List.all_eq_true.1 (Bool.and_eq_true_iff.1 hc1).2)
 have hhead:∀ i,i<K→∃ o d,l[i]? =some o∧o.dst=some d∧dQ o.op=false∧(∀ j oj,j<K→j≠i→l[j]? =some oj→oj.dst≠some d):=by
  intro i hi;have hil:i<l.length:=by omega
  have hx:=hck i (List.mem_range.2 hil);rw [List.getElem?_eq_getElem hil] at hx;simp only [Bool.and_eq_true] at hx;have h3:=hx.2;rw [if_pos hi] at h3;simp only [Bool.and_eq_true] at h3;obtain ⟨h3a,h3b⟩:=h3;cases hod:(l[i]).dst with
  |none=>rw [hod] at h3a;cases h3a
  |some d=>
   rw [hod] at h3a;simp only [Bool.and_eq_true] at h3a;refine ⟨l[i],d,List.getElem?_eq_getElem hil,hod,by simpa using hx.1.2,fun j oj hj hne hoj e=>?_⟩;have h5:=List.all_eq_true.1 h3a.1 j (List.mem_range.2 hj);rw [hoj] at h5;simp [hne,e] at h5
 have hval:∀ i,i<K→listed.getD i true=false→∃ v,∀ o d,l[i]? =some o→o.dst=some d→Yields P l.toArray o v (mkA n L')∧R d v w':=by
  intro i hi hf;have hil8:=hpre i hi hf;obtain ⟨o,d,ho,hd,hsel,_⟩:=hhead i hi;obtain ⟨hk,hg,hap⟩:=i_ hlate hi ho hil8
  have hfact:∀ t∈fR l K i o,R t (bF L' t) w':=by
   intro t ht;obtain ⟨ht2,j,oj,hjK,hj,hdj,hji,_⟩:=jt hc hi ho ht;refine hR j oj t hjK hj ?_ hdj;cases hb:listed.getD j true with
   |true=>rfl
   |false=>
    have h6:=hpre j hjK hb;have h7:=(Oper.apart_spec (hap j oj hj (by omega) (.inl ⟨hjK,h6⟩))).2.2 t hdj;exact absurd (by simpa using ht2) h7
  have hlooks:=qj (L:=L) hc hcl hs ho (by omega) hf hfr
  have hnd:nf l K mu i=false:=by
   rw [←Bool.not_eq_true];intro hd;obtain ⟨hmK,om,hom,hdep⟩:=oI hd
   have hml:listed.getD mu true=true:=by
    cases hb:listed.getD mu true with
    |true=>rfl
    |false=>exact absurd (hpre mu hmK hb) (by rw [hmuL hmK];simp)
   have hml2:listed.getD mu false=true:=by rw [←cd (by omega)];exact hml
   have:=fF hcl (fun e he hb=>hcl mu om hom hml2 e he hb) hdep;rw [←cd (by omega),hf] at this;cases this
  have hok:=gj (bF L') _ hfact (oi hop i o (by rw [List.getElem?_take,if_pos hi];exact ho) (by intro e;rw [e,hmuL (by omega)] at hil8;cases hil8) hnd w' hF);obtain ⟨hE,hW⟩:=fN (n:=n) (ops:=l.toArray) (o:=o) hsel hlooks;rw [hd] at hok;simp only [Option.getD_some] at hok
  have hyl:∃ v,Yields P l.toArray o v (mkA n L')∧R d v w':=by
   unfold av at hok;rw [hE,hW] at hok;rcases hok with ⟨hw,⟨v,w'',hr,hF',hRv⟩ | ⟨f,args,hr,hcall⟩⟩ | ⟨hw,hRv⟩
   ·obtain ⟨rfl,hall⟩:=rC hk hr;refine ⟨v,.inl ⟨hw,fun w2=>?_⟩,h12 _ _ _ hRv⟩;rw [dB];exact hall w2
   ·exfalso;obtain ⟨dst,op,ty,pos,after,guard⟩:=o;cases op <;> simp only [oz,Bool.false_eq_true] at hk <;> simp only [execOp,Sem.run_pure,Sem.run_bind,Result.ok.injEq] at hr
    ·cases hr.1
    ·cases hr.1
    ·rename_i x i';cases hx:ev n L' x <;> simp only [hx,Instr.extract] at hr <;> (try (simp at hr;done))
     rename_i vs;cases hv:vs[i']? <;> simp [hv] at hr
   ·exact ⟨undef,.inr ⟨hw,rfl⟩,h12 _ _ _ hRv⟩
  obtain ⟨v,hv1,hv2⟩:=hyl;refine ⟨v,fun o' d' ho' hd'=>?_⟩;rw [ho] at ho';cases ho';rw [hd] at hd';cases hd';exact ⟨hv1,hv2⟩
 obtain ⟨f,hf⟩:∃ f:Nat→Value,∀ i,i<K→listed.getD i true=false→∀ o d,l[i]? =some o→o.dst=some d→Yields P l.toArray o (f i) (mkA n L')∧R d (f i) w':=by
  refine ⟨fun i=>open Classical in if h:∃ v,∀ o d,l[i]? =some o→o.dst=some d→Yields P l.toArray o v (mkA n L')∧R d v w' then h.choose else undef,fun i hi hl=>?_⟩;have h:=hval i hi hl;simp only [dif_pos h];exact h.choose_spec
 have hUm:∀ i,i∈(List.range K).filter (fun i=> !listed.getD i true)↔i<K∧listed.getD i true=false:=fun i=>by
  rw [List.mem_filter,List.mem_range];simp
 obtain ⟨U,hU,hUn⟩:∃ U:List Nat,(∀ i,i∈U↔i<K∧listed.getD i true=false)∧U.Nodup:=⟨_,hUm,List.nodup_range.sublist (List.filter_sublist ..)⟩;have hbind:∀ {i:Nat} {o:Oper},l[i]? =some o→(l[i]?).bind (·.dst)=o.dst:=fun h=>by rw [h];rfl
 have hRall:∀ d∈fP l K,R d (bF ((U.filterMap fun i=>((l[i]?).bind (·.dst)).map fun d=>(d,f i))++L') d) w':=by
  intro d hd;obtain ⟨o,ho,hod⟩:=List.mem_filterMap.1 hd;obtain ⟨i,hi⟩:=List.mem_iff_getElem?.1 ho;rw [List.getElem?_take] at hi;split at hi
  ·rename_i hiK;obtain ⟨o',d',ho',hd',_,hdist⟩:=hhead i hiK;rw [hi] at ho';cases ho';rw [hod] at hd';cases hd'
   have hne:∀ j∈U,j≠i→(l[j]?).bind (·.dst)≠some d:=fun j hj hji=>by
    have hjK:=((hU j).1 hj).1;obtain ⟨oj,dj,hoj,_⟩:=hhead j hjK;rw [hbind hoj];exact hdist j oj hjK hji hoj
   cases hb:listed.getD i true with
   |true=>
    rw [iN U fun j hj=>hne j hj (fun e=>by subst e;have:=((hU j).1 hj).2;rw [hb] at this;cases this)];exact hR i o d hiK hi hb hod
   |false=>
    rw [ka U ((hU i).2 ⟨hiK,hb⟩) ((hbind hi).trans hod) hne];exact (hf i hiK hb o d hi hod).2
  ·cases hi
 have he:=gj _ (fP l K) hRall (hend w' hF)
 have hL:mkA n ((fP l K).map (fun d=>(d,bF ((U.filterMap fun i=>((l[i]?).bind (·.dst)).map fun d=>(d,f i))++L') d))++L)=iG l f U (mkA n L'):=by
  rw [og];refine gW fun t _=>?_
  rw [jQ];split
  ·rfl
  ·rename_i hne
   have hnd:∀ i,i<K→∀ o,l[i]? =some o→o.dst≠some t:=fun i hi o ho hod=>hne (by
    simp only [List.elem_eq_mem,decide_eq_true_eq];exact List.mem_filterMap.2 ⟨o,List.mem_iff_getElem?.2 ⟨i,by rw [List.getElem?_take,if_pos hi];exact ho⟩,hod⟩)
   rw [iN U fun j hj=>by
    have hjK:=((hU j).1 hj).1;obtain ⟨oj,dj,hoj,_⟩:=hhead j hjK;rw [hbind hoj];exact hnd j hjK oj hoj]
   exact (hfr t fun i o hi ho _ hod=>hnd i hi o ho hod).symm
 replace he:=he.out;rw [hL] at he;refine nP hQ hc m K listed U _ w' hcl hcount hs (Nat.le_refl _) hKl (fun j h1 h2=>by rw [htail j h1 h2];simp [h1]) hUn (fun j hj=>⟨fun h=>(hU j).2 ⟨hj,h⟩,fun h=>((hU j).1 h).2⟩) (fun j hj=>?_) he;obtain ⟨h1,h2⟩:=(hU j).1 hj;obtain ⟨oj,dj,hoj,hdj,_⟩:=hhead j h1;exact ⟨h1,hpre j h1 h2,oj,hoj,(hf j h1 h2 oj dj hoj hdj).1⟩
theorem vX (hQ:PQ Q) (hc:ly l K=true) (hm1:∀ w1 w2,ai w1 w2→I1 w1→I1 w2) (hm2:∀ w1 w2,ai w1 w2→I2 w1→I2 w2) (hmono1:∀ t v w1 w2,ai w1 w2→R1 t v w1→R1 t v w2) (hmono:∀ t v w1 w2,ai w1 w2→R t v w1→R t v w2)
 (hop:lL P l.toArray n L I1 I2 R1 R l K mu 0 (l.take K)) (h12:∀ t v w,R1 t v w→R t v w) (hmuL:mu<K→eI l K mu=false) (hmu:yA P l.toArray n L I1 I2 R1 R l K mu l[mu]?)
 (hend:∀ w',I2 w'→jq R w' (fP l K) fun M=>St P l.toArray Q (l.drop K) n (M++L) w') :
 ∀ (m:Nat) (listed:Array Bool) (L':List (Nat×Value)) (w':World),ij l listed→listed.toList.count false=m→listed.size=l.length→(∀ j,K≤j→j<l.length→listed.getD j true=false)→I2 w'→(listed.getD mu true=false→I1 w')→
  (∀ t,(∀ i o,i<K→l[i]? =some o→listed.getD i true=true→o.dst≠some t)→bF L' t=bF L t)→
  (∀ i o d,i<K→l[i]? =some o→listed.getD i true=true→o.dst=some d→R d (bF L' d) w')→(listed.getD mu true=false→∀ i o d,i<K→l[i]? =some o→listed.getD i true=true→o.dst=some d→R1 d (bF L' d) w')→wpAny P .any l.toArray Q m listed (mkA n L') w':=by
 have hc1:=(Bool.and_eq_true_iff.1 hc).1;have hlate:=(Bool.and_eq_true_iff.1 hc).2;have hKl:K≤l.length:=dT_ (Bool.and_eq_true_iff.1 hc1).1;have hck:=(List.all_eq_true.1 (Bool.and_eq_true_iff.1 hc1).2);intro m
 induction m with
 |zero=>
  intro listed L' w' hcl hcount hs htail hF hF1 hfr hR hR1
  exact pN hQ hc hop h12 hmuL hend 0 listed L' w' hcl hcount hs htail hF hfr hR (fun i hi h=>by
   have hm:listed[i]'(by omega)∈listed.toList:=by simp
   have hb:listed[i]'(by omega)=false:=by simpa [Array.getD,show i<listed.size by omega] using h
   rw [hb] at hm;exact absurd hcount (Nat.pos_iff_ne_zero.1 (List.count_pos_iff.2 hm)))
 |succ m ih=>
  intro listed L' w' hcl hcount hs htail hF hF1 hfr hR hR1;by_cases hpre:∀ i,i<K→listed.getD i true=false→eI l K i=true
  ·exact pN hQ hc hop h12 hmuL hend (m+1) listed L' w' hcl hcount hs htail hF hfr hR hpre
  ·
   have hn0:∃ i,i<K∧listed.getD i true=false∧eI l K i=false:=by
    refine Classical.byContradiction fun hno=>hpre fun i hi hf=>?_
    cases hb:eI l K i with
    |true=>rfl
    |false=>exact absurd ⟨i,hi,hf,hb⟩ hno
   obtain ⟨n0,hn0⟩:=hn0;obtain ⟨i0,hi0,hmin⟩:=exists_least (p:=fun i=>i<K∧listed.getD i true=false) ⟨n0,hn0.1,hn0.2.1⟩;have hi0l:i0<l.length:=by omega
   have hready:i0∈Region.ready .any l.toArray listed:=by
    refine mem_ready.2 ⟨hi0.2,l[i0],by rw [List.getElem?_toArray,List.getElem?_eq_getElem hi0l],fun e he hb=>?_⟩;have hx:=hck i0 (List.mem_range.2 hi0l);rw [List.getElem?_eq_getElem hi0l] at hx;simp only [Bool.and_eq_true] at hx;have he2:=List.all_eq_true.1 hx.1.1 e (by simpa using he);rw [hb] at he2;simp at he2;rw [←cd (by omega)];cases hb2:listed.getD e.on true with
    |true=>rfl
    |false=>exact absurd (hmin e.on ⟨by omega,hb2⟩) (by omega)
   refine ⟨fun h0=>(by rw [h0] at hready;cases hready),fun i hi=>?_⟩;obtain ⟨h0,o,ho,hall⟩:=mem_ready.1 hi;rw [List.getElem?_toArray] at ho;have hil:i<l.length:=(List.getElem?_eq_some_iff.1 ho).1;have hx:=hck i (List.mem_range.2 hil);rw [ho] at hx;simp only [Bool.and_eq_true] at hx
   have hiK:i<K:=by
    rcases Nat.lt_or_ge i K with h | h
    ·exact h
    ·exfalso;have h5:=fF hcl hall (lx hn0.2.2 ho h);rw [←cd (by omega),hn0.2.1] at h5;cases h5
   have h3:=hx.2;rw [if_pos hiK] at h3;simp only [Bool.and_eq_true] at h3;obtain ⟨h3a,h3b⟩:=h3;cases hod:o.dst with
   |none=>rw [hod] at h3a;cases h3a
   |some d=>
    rw [hod] at h3a;simp only [Bool.and_eq_true] at h3a;have hlooks:=qj (L:=L) hc hcl hs ho hil h0 hfr
    have hfactG:∀ (RR:Nat→Value→World→Prop),(∀ i o d,i<K→l[i]? =some o→listed.getD i true=true→o.dst=some d→RR d (bF L' d) w')→∀ t∈fR l K i o,RR t (bF L' t) w':=by
     intro RR hRR t ht;obtain ⟨_,j,oj,hjK,hj,hd,_,hdep⟩:=jt hc hiK ho ht;have h6:=fF hcl hall hdep;exact hRR j oj t hjK hj (by rw [cd (by omega)];exact h6) hd
    have hsel:dQ o.op=false:=by simpa using hx.1.2
    obtain ⟨hE,hW⟩:=fN (n:=n) (ops:=l.toArray) (o:=o) hsel hlooks
    have next:∀ v w'',I2 w''→(i≠mu→listed.getD mu true=false→I1 w'')→R d v w''→(i≠mu→R1 d v w'')→(∀ t u,t≠d→R t u w'→(i=mu→R1 t u w')→R t u w'')→(i≠mu→∀ t u,R1 t u w'→R1 t u w'')→wpAny P .any l.toArray Q m (listed.setIfInBounds i true) ((mkA n L').put (some d) v) w'':=by
     intro v w'' hI2' hI1' hRv hR1v hst hst1;rw [fC]
     have hne:∀ j oj d',j<K→l[j]? =some oj→j≠i→oj.dst=some d'→d'≠d:=by
      intro j oj d' hj hoj hji hd e;have h5:=List.all_eq_true.1 h3a.1 j (List.mem_range.2 hj);rw [hoj] at h5;simp [hji,hd,e] at h5
     refine ih _ _ w'' (ke hcl ho hall) ?_ (by simpa using hs) (fun j hj1 hj2=>?_) hI2' (fun hml=>?_) (fun t ht=>?_) (fun j oj d' hj hoj hlj hd=>?_) (fun hml j oj d' hj hoj hlj hd=>?_)
     ·have hil':i<listed.size:=by omega
      have hfalse:listed.toList[i]? =some false:=by
       rw [Array.getElem?_toList,Array.getElem?_eq_getElem hil'];simp [Array.getD,hil'] at h0;rw [h0]
      rw [Array.toList_setIfInBounds];have:=eW (l:=listed.toList) (i:=i) hfalse;omega
     ·rw [getD_set_ne true (by omega)];exact htail j hj1 hj2
     ·have him:i≠mu:=fun e=>by subst e;simp [show i<listed.size by omega] at hml
      rw [getD_set_ne true him] at hml;exact hI1' him hml
     ·have htd:t≠d:=fun e=>ht i o hiK ho (by simp [show i<listed.size by omega]) (by rw [hod,e])
      rw [cV,if_neg htd];refine hfr t fun j oj hj hoj hlj=>ht j oj hj hoj ?_
      by_cases e:i=j
      ·subst e;rw [h0] at hlj;cases hlj
      ·rw [getD_set_ne true e];exact hlj
     ·rw [cV];by_cases e:j=i
      ·subst e;rw [ho] at hoj;cases hoj;rw [hod] at hd;cases hd;rw [if_pos rfl];exact hRv
      ·have hdd:=hne j oj d' hj hoj e hd;rw [if_neg hdd];rw [getD_set_ne true (Ne.symm e)] at hlj;refine hst _ _ hdd (hR j oj d' hj hoj hlj hd) (fun e2=>?_);subst e2;exact hR1 h0 j oj d' hj hoj hlj hd
     ·have him:i≠mu:=fun e=>by subst e;simp [show i<listed.size by omega] at hml
      rw [getD_set_ne true him] at hml;rw [cV];by_cases e:j=i
      ·subst e;rw [ho] at hoj;cases hoj;rw [hod] at hd;cases hd;rw [if_pos rfl];exact hR1v him
      ·rw [if_neg (hne j oj d' hj hoj e hd)];rw [getD_set_ne true (Ne.symm e)] at hlj;exact hst1 him _ _ (hR1 hml j oj d' hj hoj hlj hd)
    unfold wpOp;rw [List.getElem?_toArray,ho];show if Region.wanted o (yielded l.toArray (mkT n.n L'))=true then _ else _
    by_cases him:i=mu
    ·subst him;rw [ho] at hmu;have hok:=gj (bF L') _ (hfactG R1 (hR1 h0)) (hmu w' (hF1 h0));rw [hod] at hok;simp only [Option.getD_some] at hok;unfold u_ at hok;rw [hE,hW] at hok;obtain ⟨hw,⟨v,w'',hr,hI,hRv,hst⟩ | ⟨f,args,hr,hcall⟩⟩:=hok
     ·rw [if_pos hw];refine .inl ?_;unfold Oper.wp;rw [dB,hr,Oper.upon_value,hod];exact next v w'' hI (fun h=>absurd rfl h) hRv (fun h=>absurd rfl h) (fun t u ht _ h1=>hst t u ht (h1 rfl)) (fun h=>absurd rfl h)
     ·rw [if_pos hw];refine .inl ?_;unfold Oper.wp;rw [dB,hr,Oper.upon_enter,hod];refine Calls.mono hcall fun e w'' ⟨v,he,hI,hRv,hst⟩=>?_
      subst he;exact next v w'' hI (fun h=>absurd rfl h) hRv (fun h=>absurd rfl h) (fun t u ht _ h1=>hst t u ht (h1 rfl)) (fun h=>absurd rfl h)
    ·have hok:av P l.toArray n (((fR l K i o).map fun d=>(d,bF L' d))++L) o w' (R1 (o.dst.getD 0)):=by
      cases hdm:nf l K mu i with
      |false=>exact gj (bF L') _ (hfactG R hR) (oi hop i o (by rw [List.getElem?_take,if_pos hiK];exact ho) him hdm w' hF)
      |true=>
       have hml:listed.getD mu true=false:=by
        obtain ⟨hmK,om,hom,hdep⟩:=oI hdm;rw [←Bool.not_eq_true];intro hml;have hml2:listed.getD mu false=true:=by rw [←cd (by omega)];exact hml
        have:=fF hcl (fun e he hb=>hcl mu om hom hml2 e he hb) hdep;rw [←cd (by omega),h0] at this;cases this
       exact gj (bF L') _ (hfactG R1 (hR1 hml)) (sE hop i o (by rw [List.getElem?_take,if_pos hiK];exact ho) him hdm w' (hF1 hml))
     rw [hod] at hok;simp only [Option.getD_some] at hok;unfold av at hok;rw [hE,hW] at hok
     have next':∀ v w'',ai w' w''→R1 d v w''→wpAny P .any l.toArray Q m (listed.setIfInBounds i true) ((mkA n L').put (some d) v) w'':=fun v w'' hF' hRv=>
      next v w'' (hm2 _ _ hF' hF) (fun _ h=>hm1 _ _ hF' (hF1 h)) (h12 _ _ _ hRv) (fun _=>hRv) (fun t u _ h _=>hmono _ _ _ _ hF' h) (fun _ t u h=>hmono1 _ _ _ _ hF' h)
     rcases hok with ⟨hw,⟨v,w'',hr,hF',hRv⟩ | ⟨f,args,hr,hcall⟩⟩ | ⟨hw,hRv⟩
     ·rw [if_pos hw];refine .inl ?_;unfold Oper.wp;rw [dB,hr,Oper.upon_value,hod];exact next' v w'' hF' hRv
     ·rw [if_pos hw];refine .inl ?_;unfold Oper.wp;rw [dB,hr,Oper.upon_enter,hod];refine Calls.mono hcall fun e w'' ⟨v,he,hF',hRv⟩=>?_
      subst he;exact next' v w'' hF' hRv
     ·rw [if_neg (by rw [hw];simp),hod];exact next' undef w' ai.rfl_ hRv
theorem wR {id:Nat} (K mu:Nat) (Ex:List Nat) (RL:List (Nat×(Value→World→Prop))) (I1 I2:World→Prop) (hQ:PQ Q) (hm:P.follows .mixedOrders=true) (hc:ly l K=true) (hl:eI l K mu=false) (hmono:p6 RL)
 (h0:I1 { w with drawn:=w.drawn+1 }) (h0':I2 { w with drawn:=w.drawn+1 }) (hm1:∀ w1 w2,ai w1 w2→I1 w1→I1 w2) (hm2:∀ w1 w2,ai w1 w2→I2 w1→I2 w2)
 (hop:lL P l.toArray n L I1 I2 (gR RL) (kE Ex RL) l K mu 0 (l.take K)) (hmu:yA P l.toArray n L I1 I2 (gR RL) (kE Ex RL) l K mu l[mu]?)
 (hend:∀ w',I2 w'→jq (kE Ex RL) w' (fP l K) fun M=>St P l.toArray Q (l.drop K) n (M++L) w'):Cd P (.region id l.toArray true) Q n L w:=by
 refine ⟨wp_region_any hm ?_⟩;have hKl:K≤l.length:=dT_ (Bool.and_eq_true_iff.1 (Bool.and_eq_true_iff.1 hc).1).1
 have:=vX (Q:=Q) hQ hc hm1 hm2 (gY hmono) (sM hmono) hop wq (fun _=>hl) hmu hend l.length (Array.replicate l.length false) L { w with drawn:=w.drawn+1 } (ng l _) (by simp) (by simp)
  (fun j _ hj=>by simp [Array.getD,hj]) h0' (fun _=>h0) (fun _ _=>rfl) (fun i o d hi _ hl=>by
   have:i<l.length:=by omega
   simp [Array.getD,this] at hl) (fun _ i o d hi _ hl=>by
   have:i<l.length:=by omega
   simp [Array.getD,this] at hl)
 simpa using this
end late
end Go.Proofs.YtkpooenofjdpmaaGreat
namespace Go.Proofs.YtkpooenofjdpmaaGreat
open Go.Proofs.Tryz (prog)
open Go.RowKit
def atL {α:Type _}:List α→Nat→Option α
 |[],_=>none
 |x::_,0=>some x
 |_::r,k+1=>atL r k
theorem gM {α:Type _} {x:α}:∀ {l:List α} (k:Nat),atL l k=some x→x∈l
 |[],_,h=>by cases h
 |y::r,0,h=>by
  cases h;exact List.mem_cons_self
 |y::r,k+1,h=>List.mem_cons_of_mem _ (gM k h)
def oG (l:List Oper):Bool:=(List.range l.length).all fun i=>match l[i]? with
 |none=>false
 |some o=>o.guard.isNone&&o.after.toList.all fun e=> !Region.binds .any e||decide (e.on<i)
def dL (S:Nat→Bool) (i:Nat):Nat→Bool:=fun j=>if j=i then true else S j
def gD (P:Program) (n:Fr) (o:Oper) (Inv:List (Nat×Value)→World→Prop) (L':List (Nat×Value)) (w':World):Prop:=
 (∃ d v w'',o.dst=some d∧(execOp (ev n L') o).run P w'=.ok (.value v) w''∧Inv ((d,v)::L') w'')∨
 (∃ w'',o.dst=none∧(execOp (ev n L') o).run P w'=.ok .skip w''∧Inv L' w'')∨
 (∃ d f args,o.dst=some d∧(execOp (ev n L') o).run P w'=.ok (.enter f (List.toArray args)) w'∧Rt P f args w' fun v w''=>Inv ((d,v)::L') w'')
section
variable {P:Program} {Q:Exit→Act→World→Prop} {n:Fr} {L:List (Nat×Value)} {w:World} {l:List Oper}
theorem x8 {Inv:(Nat→Bool)→List (Nat×Value)→World→Prop} (hwf:oG l=true)
 (hstep:∀ (i:Nat) (o:Oper) (S:Nat→Bool) (L':List (Nat×Value)) (w':World),l[i]? =some o→Inv S L' w'→S i=false→(∀ e∈o.after,Region.binds .any e=true→S e.on=true)→gD P n o (Inv (dL S i)) L' w')
 (hend:∀ L' w',Inv (fun i=>decide (i<l.length)) L' w'→Q .normal (mkA n L') w') :
 ∀ (m:Nat) (listed:Array Bool) (L':List (Nat×Value)) (w':World),listed.toList.count false=m→listed.size=l.length→Inv (fun i=>listed.getD i false) L' w'→wpAny P .any l.toArray Q m listed (mkA n L') w':=by
 have hck:=List.all_eq_true.1 hwf;intro m
 induction m with
 |zero=>
  intro listed L' w' hcount hs hI
  have hall:∀ i,i<l.length→listed.getD i false=true:=fun i hi=>by
   have hm:listed[i]'(by omega)∈listed.toList:=by simp
   cases hb:listed[i]'(by omega) with
   |true=>simp [Array.getD,show i<listed.size by omega,hb]
   |false=>rw [hb] at hm;exact absurd hcount (Nat.pos_iff_ne_zero.1 (List.count_pos_iff.2 hm))
  have e:(fun i=>listed.getD i false)=fun i=>decide (i<l.length):=by
   funext i
   by_cases hi:i<l.length
   ·rw [hall i hi,decide_eq_true hi]
   ·rw [decide_eq_false hi];simp [Array.getD,show ¬ i<listed.size by omega]
  rw [e] at hI;refine ⟨?_,hend L' w' hI⟩;cases hr:Region.ready .any l.toArray listed with
  |nil=>rfl
  |cons i r=>
   exfalso;obtain ⟨h0,o,ho,_⟩:=mem_ready.1 (show i∈Region.ready .any l.toArray listed by rw [hr];simp);rw [List.getElem?_toArray] at ho;have hil:i<l.length:=(List.getElem?_eq_some_iff.1 ho).1;have:=hall i hil;rw [←cd (by omega),h0] at this;cases this
 |succ m ih=>
  intro listed L' w' hcount hs hI
  have hn0:∃ i,i<l.length∧listed.getD i true=false:=by
   have hpos:0<listed.toList.count false:=by omega
   obtain ⟨i,hi,hb⟩:=List.getElem_of_mem (List.count_pos_iff.1 hpos);rw [Array.length_toList] at hi;refine ⟨i,by omega,?_⟩;rw [Array.getElem_toList] at hb;simp [Array.getD,hi,hb]
  obtain ⟨i0,hi0,hmin⟩:=exists_least (p:=fun i=>i<l.length∧listed.getD i true=false) hn0
  have hready:i0∈Region.ready .any l.toArray listed:=by
   refine mem_ready.2 ⟨hi0.2,l[i0]'hi0.1,by rw [List.getElem?_toArray,List.getElem?_eq_getElem hi0.1],fun e he hb=>?_⟩;have hx:=hck i0 (List.mem_range.2 hi0.1);rw [List.getElem?_eq_getElem hi0.1] at hx;simp only [Bool.and_eq_true] at hx;have he2:=List.all_eq_true.1 hx.2 e (by simpa using he);rw [hb] at he2;simp at he2;have:=hi0.1;rw [←cd (by omega)];cases hb2:listed.getD e.on true with
   |true=>rfl
   |false=>exact absurd (hmin e.on ⟨by omega,hb2⟩) (by omega)
  refine ⟨fun h0=>(by rw [h0] at hready;cases hready),fun i hi=>?_⟩;obtain ⟨h0,o,ho,hall⟩:=mem_ready.1 hi;rw [List.getElem?_toArray] at ho;have hil:i<l.length:=(List.getElem?_eq_some_iff.1 ho).1;have hx:=hck i (List.mem_range.2 hil);rw [ho] at hx;simp only [Bool.and_eq_true] at hx;have hg:o.guard=none:=by simpa using hx.1
  have h0f:listed.getD i false=false:=by rw [←cd (by omega)];exact h0
  have hset:(fun j=>(listed.setIfInBounds i true).getD j false)=dL (fun j=>listed.getD j false) i:=by
   funext j
   unfold dL;by_cases e:j=i
   ·subst e;simp [Array.getD,show j<listed.size by omega]
   ·rw [if_neg e,getD_set_ne false (Ne.symm e)]
  have hcnt:(listed.setIfInBounds i true).toList.count false=m:=by
   have hil':i<listed.size:=by omega
   have hfalse:listed.toList[i]? =some false:=by
    rw [Array.getElem?_toList,Array.getElem?_eq_getElem hil'];simp [Array.getD,hil'] at h0;rw [h0]
   rw [Array.toList_setIfInBounds];have:=eW (l:=listed.toList) (i:=i) hfalse;omega
  have next:∀ L2 w2,Inv (dL (fun j=>listed.getD j false) i) L2 w2→wpAny P .any l.toArray Q m (listed.setIfInBounds i true) (mkA n L2) w2:=fun L2 w2 h=>
   ih _ L2 w2 hcnt (by simpa using hs) (by rw [hset];exact h)
  unfold wpOp;rw [List.getElem?_toArray,ho];show if Region.wanted o (yielded l.toArray (mkT n.n L'))=true then _ else _
  rw [if_pos (by unfold Region.wanted;rw [hg])];refine .inl ?_;unfold Oper.wp;rw [dB];rcases hstep i o _ L' w' ho hI h0f hall with ⟨d,v,w'',hd,hr,hI2⟩ | ⟨w'',hd,hr,hI2⟩ | ⟨d,f,args,hd,hr,hc⟩
  ·rw [hr,Oper.upon_value,hd,fC];exact next _ _ hI2
  ·rw [hr,Oper.upon_skip,hd];exact next _ _ hI2
  ·rw [hr,Oper.upon_enter,hd];refine Calls.mono hc fun e w'' ⟨v,he,hI2⟩=>?_
   subst he;show wpAny P .any l.toArray Q m (listed.setIfInBounds i true) ((mkA n L').put (some d) v) w'';rw [fC];exact next _ _ hI2
theorem s3 {id:Nat} (Inv:(Nat→Bool)→List (Nat×Value)→World→Prop) (hm:P.follows .mixedOrders=true) (hwf:oG l=true) (h0:Inv (fun _=>false) L { w with drawn:=w.drawn+1 })
 (hstep:∀ (i:Nat) (o:Oper) (S:Nat→Bool) (L':List (Nat×Value)) (w':World),l[i]? =some o→Inv S L' w'→S i=false→(∀ e∈o.after,Region.binds .any e=true→S e.on=true)→gD P n o (Inv (dL S i)) L' w')
 (hend:∀ L' w',Inv (fun i=>decide (i<l.length)) L' w'→Q .normal (mkA n L') w'):Cd P (.region id l.toArray true) Q n L w:=by
 refine ⟨wp_region_any hm ?_⟩
 have:=x8 (Q:=Q) hwf hstep hend l.length (Array.replicate l.length false) L { w with drawn:=w.drawn+1 } (by simp) (by simp) (by
  have e:(fun i=>(Array.replicate l.length false).getD i false)=fun _=>false:=by
   funext i
   by_cases hi:i<l.length <;> simp [Array.getD,hi]
  rw [e];exact h0)
 simpa using this
theorem bp {d:Nat} {op:Op} {ty:TypeId} {pos:String} {after:Array Edge} {v:Value} {w' w'':World} {L':List (Nat×Value)} {Inv:List (Nat×Value)→World→Prop} (h:RO P (ev n L') op w' v w'') (hI:Inv ((d,v)::L') w''):gD P n ⟨some d,op,ty,pos,after,none⟩ Inv L' w':=
 .inl ⟨d,v,w'',rfl,h _ _ _ _ _,hI⟩
theorem dZ {op:Op} {ty:TypeId} {pos:String} {after:Array Edge} {w' w'':World} {L':List (Nat×Value)} {Inv:List (Nat×Value)→World→Prop} (h:RS P (ev n L') op w' w'') (hI:Inv L' w''):gD P n ⟨none,op,ty,pos,after,none⟩ Inv L' w':=
 .inr (.inl ⟨w'',rfl,h _ _ _ _ _,hI⟩)
def iB (L:List (Nat×Value)) (T:List (Nat×Nat×Value)) (S:Nat→Bool) (L':List (Nat×Value)):Prop:=
 (∀ t,(∀ p∈T,p.2.1≠t)→bF L' t=bF L t)∧(∀ p∈T,S p.1=true→bF L' p.2.1=p.2.2)∧∀ p∈T,S p.1=false→bF L' p.2.1=bF L p.2.1
def iA:List (Nat×Nat×Value)→Prop
 |[]=>True
 |p::r=>(∀ q∈r,q.1≠p.1∧q.2.1≠p.2.1)∧iA r
theorem p8:∀ {T:List (Nat×Nat×Value)},iA T→∀ {p q:Nat×Nat×Value},p∈T→q∈T→p.1=q.1∨p.2.1=q.2.1→p=q
 |_::_,⟨h1,h2⟩,p,q,hp,hq,he=>by
  rcases List.mem_cons.1 hp with rfl | hp' <;> rcases List.mem_cons.1 hq with rfl | hq'
  ·rfl
  ·rcases he with e | e
   ·exact absurd e.symm (h1 _ hq').1
   ·exact absurd e.symm (h1 _ hq').2
  ·rcases he with e | e
   ·exact absurd e (h1 _ hp').1
   ·exact absurd e (h1 _ hp').2
  ·exact p8 h2 hp' hq' he
theorem iB.put {T:List (Nat×Nat×Value)} {S:Nat→Bool} {L':List (Nat×Value)} {i d:Nat} {v:Value} (h:iB L T S L') (hU:iA T) (hp:(i,d,v)∈T):iB L T (dL S i) ((d,v)::L'):=by
 refine ⟨fun t ht=>?_,fun p hq hs=>?_,fun p hq hs=>?_⟩
 ·rw [cV,if_neg (fun e=>ht _ hp e.symm)];exact h.1 t ht
 ·rw [cV];by_cases e:p.2.1=d
  ·rw [if_pos e,p8 hU hq hp (.inr e)]
  ·rw [if_neg e];refine h.2.1 p hq ?_;unfold dL at hs;by_cases e2:p.1=i
   ·exact absurd (congrArg (·.2.1) (p8 hU hq hp (.inl e2))) e
   ·rwa [if_neg e2] at hs
 ·unfold dL at hs;by_cases e2:p.1=i
  ·rw [if_pos e2] at hs;cases hs
  ·rw [if_neg e2] at hs;rw [cV,if_neg (fun e=>e2 (congrArg (·.1) (p8 hU hq hp (.inr e))))];exact h.2.2 p hq hs
theorem iB.skip {T:List (Nat×Nat×Value)} {S:Nat→Bool} {L':List (Nat×Value)} {i:Nat} (h:iB L T S L') (hi:∀ p∈T,p.1≠i):iB L T (dL S i) L':=by
 refine ⟨h.1,fun p hq hs=>h.2.1 p hq ?_,fun p hq hs=>h.2.2 p hq ?_⟩ <;> (unfold dL at hs;rwa [if_neg (hi p hq)] at hs)
theorem iB.get {T:List (Nat×Nat×Value)} {S:Nat→Bool} {L':List (Nat×Value)} {i d:Nat} {v:Value} (h:iB L T S L') (hp:(i,d,v)∈T) (hs:S i=true):bF L' d=v:=h.2.1 _ hp hs
def iM (S:Nat→Bool):List Edge→Prop
 |[]=>True
 |e::r=>(bif Region.binds .any e then S e.on=true else True)∧iM S r
theorem kI {S:Nat→Bool}:∀ {es:List Edge},(∀ e∈es,Region.binds .any e=true→S e.on=true)→iM S es
 |[],_=>trivial
 |e::r,h=>by
  refine ⟨?_,kI fun e' he=>h e' (.tail _ he)⟩;cases hb:Region.binds .any e with
  |true=>exact h e (.head _) hb
  |false=>trivial
def ta (P:Program) (n:Fr) (L:List (Nat×Value)) (T:List (Nat×Nat×Value)) (Mem:(Nat→Bool)→World→Prop):Nat→List Oper→Prop
 |_,[]=>True
 |i,o::r=>(∀ S L' w',iB L T S L'→Mem S w'→S i=false→iM S o.after.toList→gD P n o (fun L2 w2=>iB L T (dL S i) L2∧Mem (dL S i) w2) L' w')∧ta P n L T Mem (i+1) r
theorem pk {T:List (Nat×Nat×Value)} {Mem:(Nat→Bool)→World→Prop}:∀ {r:List Oper} {k:Nat},ta P n L T Mem k r→∀ (i:Nat) (o:Oper),r[i]? =some o→∀ S L' w',iB L T S L'→Mem S w'→S (k+i)=false→iM S o.after.toList→gD P n o (fun L2 w2=>iB L T (dL S (k+i)) L2∧Mem (dL S (k+i)) w2) L' w'
 |[],_,_,i,o,h=>by simp at h
 |x::r,k,⟨h1,h2⟩,0,o,h=>by
  simp only [List.getElem?_cons_zero,Option.some.injEq] at h;subst h;exact h1
 |x::r,k,⟨h1,h2⟩,i+1,o,h=>by
  have:=pk h2 i o (by simpa using h)
  rwa [show k+1+i=k+(i+1) by omega] at this
theorem rB {T:List (Nat×Nat×Value)} (_:iA T) {L L':List (Nat×Value)} {S:Nat→Bool} (h:iB L T S L') (hS:∀ p∈T,S p.1=true) (t:Nat):bF L' t=bF (T.map (fun p=>(p.2.1,p.2.2))++L) t:=by
 have key:∀ T':List (Nat×Nat×Value),(∀ p∈T',p∈T)→(∃ p∈T',p.2.1=t)∨(∀ p∈T',p.2.1≠t)→(∃ p∈T',p.2.1=t∧bF (T'.map (fun p=>(p.2.1,p.2.2))++L) t=p.2.2)∨((∀ p∈T',p.2.1≠t)∧bF (T'.map (fun p=>(p.2.1,p.2.2))++L) t=bF L t):=by
  intro T'
  induction T' with
  |nil=>exact fun _ _=>.inr ⟨fun p hp=>by simp at hp,rfl⟩
  |cons q r ih=>
   intro hsub _;rw [List.map_cons,List.cons_append,cV];by_cases e:q.2.1=t
   ·rw [if_pos e.symm];exact .inl ⟨q,.head _,e,rfl⟩
   ·rw [if_neg (Ne.symm e)];rcases ih (fun p hp=>hsub p (.tail _ hp)) (by by_cases hx:∃ p∈r,p.2.1=t;exact .inl hx;exact .inr fun p hp he=>hx ⟨p,hp,he⟩) with ⟨p,hp,h1,h2⟩ | ⟨h1,h2⟩
    ·exact .inl ⟨p,.tail _ hp,h1,h2⟩
    ·refine .inr ⟨fun p hp=>?_,h2⟩;rcases List.mem_cons.1 hp with rfl | hp2
     ·exact e
     ·exact h1 p hp2
 rcases key T (fun _ hp=>hp) (by by_cases hx:∃ p∈T,p.2.1=t;exact .inl hx;exact .inr fun p hp he=>hx ⟨p,hp,he⟩) with ⟨p,hp,h1,h2⟩ | ⟨h1,h2⟩
 ·rw [h2,←h1];exact h.2.1 p hp (hS p hp)
 ·rw [h2];exact h.1 t h1
theorem iJ {id:Nat} (T:List (Nat×Nat×Value)) (Mem:(Nat→Bool)→World→Prop) (hm:P.follows .mixedOrders=true) (hwf:oG l=true) (hU:iA T) (hlt:∀ p∈T,p.1<l.length) (h0:Mem (fun _=>false) { w with drawn:=w.drawn+1 })
 (hstep:ta P n L T Mem 0 l) (hend:∀ w',Mem (fun i=>decide (i<l.length)) w'→Q .normal (mkA n (T.map (fun p=>(p.2.1,p.2.2))++L)) w'):Cd P (.region id l.toArray true) Q n L w:=by
 refine s3 (fun S L' w'=>iB L T S L'∧Mem S w') hm hwf ⟨⟨fun _ _=>rfl,fun _ _ h=>(by cases h),fun _ _ _=>rfl⟩,h0⟩ (fun i o S L' w' ho ⟨hI,hM⟩ hS hE=>?_) fun L' w' ⟨hI,hM⟩=>?_
 ·have:=pk hstep i o ho S L' w' hI hM (by rw [Nat.zero_add];exact hS) (kI fun e he=>hE e (by simpa using he))
  rwa [Nat.zero_add] at this
 ·have h:=hend w' hM
  have e:mkA n L'=mkA n (T.map (fun p=>(p.2.1,p.2.2))++L):=by
   unfold mkA;rw [jP fun t _=>rB hU hI (fun p hp=>decide_eq_true (hlt p hp)) t]
  rw [e];exact h
theorem eK {t:TypeId} {x y:Operand} {g i:Nat} {u:TypeId} {cs:Array Value} {v:Value} (ht:eg P t=some 1) (hx:ev n L x=.pointer (some ⟨g,i,none⟩)) (hy:ev n L y=v) (h1:v.oneCell'=true) (hb:Blk w g u cs) (hi:i<cs.size) :
 ∃ w',RS P (ev n L) (.store t x y) w w'∧fc g w w'∧Blk w' g u (cs.setIfInBounds i v):=by
 have hc:w.cell? ⟨g,i,none⟩=some (cs[i]'hi):=by rw [hb.cell];simp [hi]
 exact ⟨_,lR ht hx hy h1 hc (hb.frozen i),fc.setCell w g i v,hb.set_ i v⟩
end
end Go.Proofs.YtkpooenofjdpmaaGreat
namespace Go.Proofs.YtkpooenofjdpmaaGreat
open Go.Proofs.Tryz (prog)
open Go.RowKit
def AI (w:World) (base:Nat) (e:TypeId) (A:Option Addr) (n c:Nat) (xs:List Value):Prop:=
 xs.length=n∧n≤c∧c≤maxLen∧∃ g off cs,A=some ⟨g,off,none⟩∧base≤g∧Blk w g e cs∧off+c≤cs.size∧(cs.toList.drop off).take n=xs
section
variable {P:Program} {Q:Exit→Act→World→Prop} {n:Fr} {L:List (Nat×Value)} {w:World} {l:List Oper}
def zn (P:Program) (n:Fr) (Inv:(Nat→Bool)→List (Nat×Value)→World→Prop):Nat→List Oper→Prop
 |_,[]=>True
 |i,o::r=>(∀ S L' w',Inv S L' w'→S i=false→iM S o.after.toList→gD P n o (Inv (dL S i)) L' w')∧zn P n Inv (i+1) r
theorem x7 {T:List (Nat×Nat×Value)} {S:Nat→Bool} {L':List (Nat×Value)} (hU:iA T) (hS:∀ p∈T,S p.1=true) (hI:iB L T S L'):mkA n L'=mkA n (T.map (fun p=>(p.2.1,p.2.2))++L):=by
 unfold mkA;rw [jP fun t _=>rB hU hI hS t]
end
theorem nZ {P:Program} {ρ:Operand→Value} {w:World} {s x:Operand} {t base:Nat} {A A2:Option Addr} {m j cap c2 e size by_:Nat} {z:Value} {xs news:List Value} (hq:kn P t=some (e,size,by_,z)) (hzs:z.cells.size=size) (hs0:0<size)
 (hs:ρ s=.slice A m cap) (hown:w.ownsRow base e size (.slice A m cap) m xs) (hB:base≤w.heap.size)
 (hx:ρ x=.slice A2 j c2) (hl:news.length=j*size) (hsrc:∃ b o,A2=some ⟨b,o,none⟩∧w.rangeAt b o news) (h1:∀ u∈news,u.oneCell'=true) (h63:m+j≤9223372036854775807) (hby:(m+j)*by_≤140737488355328) :
 ∃ A' cap' w',RO P ρ (.call { callee:=.builtin .append,args:=#[s,x],argTypes:=#[t,t] }) w (.slice A' (m+j) cap') w'∧w'.ownsRow base e size (.slice A' (m+j) cap') (m+j) (xs++news)∧w.grownBy w' (A.map (·.block))∧(A'.map (·.block)=A.map (·.block)∨A'.map (·.block)=some w.heap.size):=by
 obtain ⟨i,hu,hi,hsz,hb,hz⟩:=qk hq;obtain ⟨b,o,rfl,hr⟩:=hsrc;have hobl:∀ (A:Option Addr) (m c:Nat),(Value.slice A m c).ownBlock=A.map (·.block):=fun A m c=>by cases A <;> rfl
 obtain ⟨v',w',hrun,hown',hg,_,h5⟩:=run_append_own_at (P:=P) w base t 0 e i z size by_ hu hi hz hsz hb hzs hs0 _ m xs hown ⟨b,o,none⟩ j c2 news hl (fun i u hu=>by rw [Addr.add_mid];exact hr i u hu) h1 (by unfold maxLen;omega) hby hB;obtain ⟨A',cap',rfl⟩:=fL hown';rw [hobl,hobl] at h5;refine ⟨A',cap',w',fun dst ty pos after g=>?_,hown',by rw [←hobl A m cap];exact hg,h5⟩;have hty:(Builtin.append_ #[t,t] ty #[.slice A m cap,.slice (some ⟨b,o,none⟩) j c2]).run P w=(Builtin.append_ #[t,t] 0 #[.slice A m cap,.slice (some ⟨b,o,none⟩) j c2]).run P w:=rfl;unfold execOp;simp only [resolve,invoke,builtin,Sem.run_bind,Sem.run_pure,Result.andThen_ok,List.map_toArray,List.map_cons,List.map_nil,hs,hx,hty,hrun]
end Go.Proofs.YtkpooenofjdpmaaGreat
namespace Go.Proofs.YtkpooenofjdpmaaGreat
open Go.Proofs.Tryz (prog)
open Go.RowKit Go.ChangeShapes Go.WideShapes Go.ChangeAt
def AE (A B:Option Addr):Prop:=∀ p,A.map (·.block)=some p→∀ q,B.map (·.block)=some q→p≠q
theorem ru {w:World} {base e s n c:Nat} {xs:List Value} (h:w.ownsRow base e s (.slice none n c) n xs):c=0:=by
 rcases h.2 with ⟨h1,_⟩ | ⟨g,cap,cur,hv,_⟩
 ·simp only [Value.slice.injEq] at h1;omega
 ·simp only [Value.slice.injEq] at hv;cases hv.1
theorem pD {w:World} {base e s n c:Nat} {xs:List Value} (h:w.ownsRow base e s (.slice none n c) n xs):n=0:=by
 rcases h.2 with ⟨h1,_⟩ | ⟨g,cap,cur,hv,_⟩
 ·simp only [Value.slice.injEq] at h1;omega
 ·simp only [Value.slice.injEq] at hv;cases hv.1
section
variable {P:Program} {ops:Array Oper} {Q:Exit→Act→World→Prop} {rest:List Oper} {n:Fr} {L:List (Nat×Value)} {w:World} {ty:TypeId} {pos:String} {after:Array Edge} {d:Nat} {t:TypeId} {s x y:Operand}
theorem sx {base:Nat} {A A2:Option Addr} {m j cap c2 e size by_:Nat} {z:Value} {xs news:List Value} (hq:kn P t=some (e,size,by_,z)) (hzs:z.cells.size=size) (hs0:0<size)
 (hs:ev n L s=.slice A m cap) (hown:w.ownsRow base e size (.slice A m cap) m xs) (hB:base≤w.heap.size)
 (hx:ev n L x=.slice A2 j c2) (hl:news.length=j*size) (hsrc:∃ b o,A2=some ⟨b,o,none⟩∧w.rangeAt b o news) (h1:∀ u∈news,u.oneCell'=true) (h63:m+j≤9223372036854775807) (hby:(m+j)*by_≤140737488355328)
 (k:∀ A' cap' w',w'.ownsRow base e size (.slice A' (m+j) cap') (m+j) (xs++news)→w.grownBy w' (A.map (·.block))→(A'.map (·.block)=A.map (·.block)∨A'.map (·.block)=some w.heap.size)→St P ops Q rest n ((d,.slice A' (m+j) cap')::L) w') :
 St P ops Q (⟨some d,.call { callee:=.builtin .append,args:=#[s,x],argTypes:=#[t,t] },ty,pos,after,none⟩::rest) n L w:=by
 obtain ⟨A',cap',w',hR,h2,h3,h4⟩:=nZ (P:=P) (ρ:=ev n L) (s:=s) (x:=x) (w:=w) hq hzs hs0 hs hown hB hx hl hsrc h1 h63 hby;exact ab hR (k A' cap' w' h2 h3 h4)
end
end Go.Proofs.YtkpooenofjdpmaaGreat
namespace Go.Proofs.YtkpooenofjdpmaaGreat
open Go.Proofs.Tryz (prog)
open Go.RowKit Go.ChangeShapes Go.WideShapes Go.ChangeAt
structure Chg (U:Nat→Prop) (w w':World):Prop where
 os:w'.os=w.os
 tape:w'.tape=w.tape
 output:w'.output=w.output
 size:w.heap.size≤w'.heap.size
 block:∀ k,k<w.heap.size→¬ U k→w'.heap[k]? =w.heap[k]?
section
variable {U V:Nat→Prop} {a w w' w2:World}
theorem Chg.rfl_:Chg U w w:=⟨rfl,rfl,rfl,Nat.le_refl _,fun _ _ _=>rfl⟩
theorem ai.toChg (h:ai w w'):Chg U w w':=⟨h.os,h.tape,h.output,h.size,fun k hk _=>h.block k hk⟩
theorem fc.toChg {g:Nat} (h:fc g w w') (hg:U g):Chg U w w':=⟨h.os,h.tape,h.output,Nat.le_of_eq h.size.symm,fun k _ hu=>h.block k (fun e=>hu (e ▸ hg))⟩
theorem Chg.of_grown {r:Option Nat} (h:w.grownBy w' r) (hr:∀ k,r=some k→U k):Chg U w w':=⟨h.os,h.tape,h.output,h.size,fun k hk hu=>h.block k hk (fun e=>hu (hr k e.symm))⟩
theorem Chg.trans (h:Chg U w w') (k:Chg V w' w2) (hV:∀ i,V i→U i∨w.heap.size≤i):Chg U w w2:=⟨k.os.trans h.os,k.tape.trans h.tape,k.output.trans h.output,Nat.le_trans h.size k.size,fun i hi hu=>by
 refine (k.block i (Nat.lt_of_lt_of_le hi h.size) fun hv=>?_).trans (h.block i hi hu);rcases hV i hv with e | e
 ·exact hu e
 ·omega⟩
theorem Chg.next (h:Chg U w w') (k:Chg U w' w2):Chg U w w2:=h.trans k fun _ h=>.inl h
theorem Chg.wide (h:Chg U w w') (hV:∀ i,U i→V i∨w.heap.size≤i):Chg V w w':=(Chg.rfl_ (U:=V)).trans h hV
theorem ai.chg (h:ai a w) (c:Chg U w w') (hU:∀ k,U k→a.heap.size≤k):ai a w':=⟨c.os.trans h.os,c.tape.trans h.tape,c.output.trans h.output,Nat.le_trans h.size c.size,fun k hk=>(c.block k (Nat.lt_of_lt_of_le hk h.size) (fun hu=>by have:=hU k hu;omega)).trans (h.block k hk)⟩
theorem Blk.chg {g:Nat} {t:TypeId} {cs:Array Value} (h:Blk w g t cs) (c:Chg U w w') (hg:¬ U g):Blk w' g t cs:=(c.block g h.lt hg).trans h
theorem eH {base e s n c:Nat} {A:Option Addr} {xs:List Value} (h:w.ownsRow base e s (.slice A n c) n xs) (hc:Chg U w w') (hA:∀ q,A.map (·.block)=some q→¬ U q):w'.ownsRow base e s (.slice A n c) n xs:=by
 refine ⟨h.1,?_⟩;rcases h.2 with h0 | ⟨g,cap,cur,h1,h2,h3,h4⟩
 ·exact .inl h0
 ·refine .inr ⟨g,cap,cur,h1,h2,?_,h4⟩;simp only [Value.slice.injEq] at h1;obtain ⟨rfl,_,_⟩:=h1
  have hlt:g<w.heap.size:=by
   rcases Nat.lt_or_ge g w.heap.size with a | a
   ·exact a
   ·rw [Array.getElem?_eq_none a] at h3;cases h3
  exact (hc.block g hlt (hA g rfl)).trans h3
end
def AG (w w':World) (n:Nat):World:={ w' with heap:=w'.heap.mapIdx fun i o=>if i<n then o else (w.heap[i]?).getD o }
end Go.Proofs.YtkpooenofjdpmaaGreat
namespace Go.Proofs.YtkpooenofjdpmaaGreat
open Go.Proofs.Tryz (prog)
open Go.RowKit
open Go.ChangeShapes Go.WideShapes Go.ChangeAt
open Go.RowKit
def Au (w:World) (base:Nat) (e s:Nat) (A:Option Addr) (n c:Nat) (xs:List Value):Prop:=
 xs.length=n*s∧n≤c∧c≤maxLen∧((A=none∧n=0∧c=0)∨∃ g off cs,A=some ⟨g,off,none⟩∧base≤g∧Blk w g e cs∧off+c*s≤cs.size∧(cs.toList.drop off).take (n*s)=xs)
abbrev AJ (w:World) (base:Nat) (A:Option Addr) (n c:Nat) (es:List Ent):Prop:=Au w base 99 3 A n c (eb es)
theorem wG {w:World} {b:Nat} {e:Ent} (h:Blk w b 99 #[.int .i64 e.i,.int .i64 e.t,.string e.d]):cF w (.slice (some ⟨b,0,none⟩) 1 1) [e]:=
 ⟨some ⟨b,0,none⟩,1,rfl,Nat.le_refl _,by decide,fun h=>(by cases h),fun _=>⟨b,0,rfl,h.lt,fun i hi=>by
  obtain rfl:i=0:=by have:i<1:=hi;omega
  exact ⟨by rw [h.cell];rfl,by rw [h.cell];rfl,by rw [h.cell];rfl⟩⟩⟩
structure Msg where
 k:Int
 f:Int
 t:Int
 tm:Int
 ix:Int
 lt:Int
 cm:Int
 rd:Int
 ok:Bool
 a:Int
 d:ByteArray
 dn:Bool
 E:Option Addr
 c:Nat
 es:List Ent
def bM (x:Msg):List Value:=[.int .i64 x.k,.int .i64 x.f,.int .i64 x.t,.int .i64 x.tm,.int .i64 x.ix,.int .i64 x.lt,.int .i64 x.cm,.int .i64 x.rd,.bool x.ok,.slice x.E x.es.length x.c,.int .i64 x.a,.string x.d,.bool x.dn]
theorem nF (x:Msg):(bM x).length=13:=rfl
def pl (x:Msg):Msg:={ x with E:=none,c:=0 }
end Go.Proofs.YtkpooenofjdpmaaGreat
namespace Go.Proofs.YtkpooenofjdpmaaGreat
open Go.Proofs.Tryz (prog)
open Go.RowKit
def leB (x y:Int):Bool:=decide (x≤y)
def srt (L:List Int):List Int:=L.mergeSort leB
def cnt (L:List Int) (x:Int):Nat:=L.countP fun y=>decide (x≤y)
def med (L:List Int):Int:=(srt L).getD ((L.length-1)/2) 0
def Fit (L:List Int):Prop:=1≤L.length∧L.length≤7∧∀ x∈L,0≤x
theorem nS (L:List Int):(srt L).Perm L:=List.mergeSort_perm L leB
theorem qa (L:List Int):(srt L).length=L.length:=(nS L).length_eq
theorem wi {L:List Int} (h:1≤L.length):∃ h2:(L.length-1)/2<(srt L).length,med L=(srt L)[(L.length-1)/2]:=by
 have h2:(L.length-1)/2<(srt L).length:=by rw [qa];omega
 refine ⟨h2,?_⟩;unfold med;rw [List.getD_eq_getElem?_getD,List.getElem?_eq_getElem h2];rfl
theorem tP {L:List Int} (h:1≤L.length):med L∈L:=by
 obtain ⟨h2,e⟩:=wi h;rw [e];exact (nS L).mem_iff.1 (List.getElem_mem _)
def cv (V:List Int) (n:Nat):Nat:=(List.range n).countP fun i=>decide (((i+1:Nat):Int)∈V)
theorem tZ (V:List Int) (j:Nat):cv V (j+1)=cv V j+if ((j+1:Nat):Int)∈V then 1 else 0:=by
 unfold cv;rw [List.range_succ,List.countP_append];simp [List.countP_cons]
theorem zW (V:List Int) (n:Nat):cv V n≤n:=by
 have:=List.countP_le_length (p:=fun i:Nat=>decide (((i+1:Nat):Int)∈V)) (l:=List.range n);rw [List.length_range] at this;exact this
theorem ld {V:List Int} {k:Nat} (h:k<V.length) (x:Int):x∈V.take (k+1)↔x∈V.take k∨x=V[k]:=by
 rw [List.take_add_one,List.getElem?_eq_getElem h,List.mem_append];simp only [Option.toList,List.mem_singleton]
theorem nJ {V:List Int} {k n:Nat} (h:k<V.length) (hx:¬ (1≤V[k]∧V[k]≤n)∨V[k]∈V.take k):cv (V.take (k+1)) n=cv (V.take k) n:=by
 unfold cv;apply List.countP_congr;intro i hi;rw [List.mem_range] at hi;simp only [decide_eq_true_eq,ld h];constructor
 ·rintro (h1 | h1)
  ·exact h1
  ·rcases hx with h2 | h2
   ·omega
   ·rw [h1];exact h2
 ·exact .inl
theorem wM {V:List Int} {k:Nat} (h:k<V.length) (hx:V[k] ∉ V.take k):∀ n:Nat,1≤V[k]→V[k]≤n→cv (V.take (k+1)) n=cv (V.take k) n+1
 |0,h1,h2=>by omega
 |n+1,h1,h2=>by
  rw [tZ,tZ];by_cases he:V[k]=((n+1:Nat):Int)
  ·rw [if_pos ((ld h _).2 (.inr he.symm)),if_neg (by rw [←he];exact hx),nJ h (.inl (by omega))]
  ·rw [wM h hx n h1 (by omega)]
   have:((n+1:Nat):Int)∈V.take (k+1)↔((n+1:Nat):Int)∈V.take k:=by
    rw [ld h];exact ⟨fun hh=>hh.elim id fun e=>absurd e.symm he,.inl⟩
   simp only [this];omega
def vt (V:List Int) (n i:Nat):Bool:=decide (1≤i∧i≤n∧(i:Int)∈V)
def lN (V:List Int) (n:Nat):List Value:=(List.range 8).map fun i=>.bool (vt V n i)
theorem qP (V:List Int) (n i:Nat) (h:i<8):(lN V n).toArray[0+i*1]? =some (.bool (vt V n i)):=by
 unfold lN;simp [h]
theorem mh {V:List Int} {k n:Nat} (h:k<V.length) (hx:¬ (1≤V[k]∧V[k]≤n)∨V[k]∈V.take k):lN (V.take (k+1)) n=lN (V.take k) n:=by
 unfold lN;apply List.map_congr_left;intro i _
 congr 1
 unfold vt;rw [decide_eq_decide,ld h];constructor
 ·rintro ⟨h1,h2,h3 | h3⟩
  ·exact ⟨h1,h2,h3⟩
  ·rcases hx with h4 | h4
   ·omega
   ·exact ⟨h1,h2,by rw [h3];exact h4⟩
 ·rintro ⟨h1,h2,h3⟩;exact ⟨h1,h2,.inl h3⟩
theorem vh {V:List Int} {k n:Nat} (h:k<V.length) (h1:1≤V[k]) (h2:V[k]≤n) (hn:n≤7):(lN (V.take k) n).toArray.setIfInBounds (0+V[k].toNat*1) (.bool true)=(lN (V.take (k+1)) n).toArray:=by
 apply Array.ext_getElem?;intro i;rw [Array.getElem?_setIfInBounds];by_cases hi:i<8
 ·have g:=fun U=>qP U n i hi
  rw [Nat.zero_add,Nat.mul_one] at g;rw [g,g];by_cases he:0+V[k].toNat*1=i
  ·rw [if_pos he,if_pos (by unfold lN;simp;omega)]
   congr 2
   symm;unfold vt;rw [decide_eq_true_eq,ld h];exact ⟨by omega,by omega,.inr (by omega)⟩
  ·rw [if_neg he]
   congr 2
   unfold vt;rw [decide_eq_decide,ld h];constructor
   ·rintro ⟨a,b,c⟩;exact ⟨a,b,.inl c⟩
   ·rintro ⟨a,b,c | c⟩
    ·exact ⟨a,b,c⟩
    ·omega
 ·have:∀ U,(lN U n).toArray[i]? =none:=fun U=>by unfold lN;simp;omega
  rw [this,this,if_neg (by omega)]
theorem vg (n:Nat):lN [] n=[.bool false,.bool false,.bool false,.bool false,.bool false,.bool false,.bool false,.bool false]:=by
 unfold lN vt;simp [List.range_succ]
def xsh (s:Int) (m:Int):Int:=bits BinOp.xor IntKind.u64 s (IntKind.u64.wrap (s*m))
def xsr (s:Int):Int:=bits BinOp.xor IntKind.u64 s (s/128)
def nx (s:Int):Int:=xsh (xsr (xsh (if s=0 then 11400714819323198485 else s) 8192)) 131072
def Ak (s:Int):Nat→Int
 |0=>s
 |1=>xsh s 8192
 |2=>xsr (xsh s 8192)
 |_=>xsh (xsr (xsh s 8192)) 131072
theorem y5 (s:Int) (b:Nat) (w:World) (h0:w.cell? ⟨b,0,none⟩=some (.int .i64 13)) (h1:w.cell? ⟨b,1,none⟩=some (.int .i64 (-7))) (h2:w.cell? ⟨b,2,none⟩=some (.int .i64 17)) :
 Calls prog 173 #[.int .u64 s,.slice (some ⟨b,0,none⟩) 3 3] w fun e w'=>e=.returned (.int .u64 (xsh (xsr (xsh s 8192)) 131072))∧w=w':=by
 go_enter Tryz.func173,Tryz.ntmps173
 go_wp2
 go_loop [0,9] (fun x i=>∃ k:Nat,k≤3∧i=.int .i64 k∧x=.int .u64 (Ak s k)) (fun _ i=>3-(intOf i).toNat)
 case atStart=>exact ⟨0,by omega,rfl,rfl⟩
 case round=>
  obtain ⟨k,hk,rfl,rfl⟩:=hrel;obtain rfl | rfl | rfl | rfl:k=0∨k=1∨k=2∨k=3:=by omega
  ·go_wp2
   go_round
   case rel=>exact ⟨1,by omega,rfl,rfl⟩
   case measure=>simp [intOf]
  ·go_wp2
   go_round
   case rel=>exact ⟨2,by omega,rfl,rfl⟩
   case measure=>simp [intOf]
  ·go_wp2
   go_round
   case rel=>exact ⟨3,by omega,rfl,rfl⟩
   case measure=>simp [intOf]
  ·go_wp2
   go_ret
   exact ⟨rfl,rfl⟩
def st0 (s:Int):Int:=if s=0 then 11400714819323198485 else s
theorem vU (s:Int) (w:World) :
 Calls prog 159 #[.int .u64 s] w fun e w'=>e=.returned (.agg #[.int .u64 (st0 s)])∧ai w w':=by
 by_cases hs:s=0
 ·subst hs
  go_enter Tryz.func159,Tryz.ntmps159
  go_wp2
  exact bodyPost_ret (v:=.agg #[.int .u64 11400714819323198485]) (by simp [results,Tryz.results159,go_sem]) rfl ⟨rfl,ai.rfl_.new _⟩
 ·have hs':(s==0)=false:=by simpa using hs
  go_enter Tryz.func159,Tryz.ntmps159
  go_wp2
  exact bodyPost_ret (v:=.agg #[.int .u64 s]) (by simp [results,Tryz.results159,go_sem]) rfl ⟨by simp [st0,hs],ai.rfl_.new _⟩
theorem zy (s:Int) (w:World) :
 Calls prog 160 #[.agg #[.int .u64 s]] w fun e w'=>e=.returned (.agg #[.int .u64 (xsh (xsr (xsh s 8192)) 131072)])∧ai w w':=by
 go_enter Tryz.func160,Tryz.ntmps160
 go_wp2_with (first
  |(go_at_call 173
    refine (y5 _ _ _ ?_ ?_ ?_).mono ?_
    ·go_simp
    ·go_simp
    ·go_simp
    rintro e w1 ⟨rfl,rfl⟩))
 exact bodyPost_ret (v:=.agg #[.int .u64 (xsh (xsr (xsh s 8192)) 131072)]) (by simp [results,Tryz.results160,go_sem]) rfl ⟨rfl,((ai.rfl_.new _).new _).new _⟩
theorem next (s:Int) (w:World) :
 Calls prog 130 #[.int .u64 s] w fun e w'=>e=.returned (.int .u64 (nx s))∧ai w w':=by
 have hfd:∀ (a:Int) (w:World),(Instr.field 171 (.agg #[.int .u64 a]) 0).run prog w=.ok (.int .u64 a) w:=fun _ _=>by kernel_rfl
 go_enter Tryz.func130,Tryz.ntmps130
 go_wp2_with (first | (go_at_call 159;refine (vU _ _).mono ?_;rintro e w1 ⟨rfl,hb1⟩) | (go_at_call 160;refine (zy _ _).mono ?_;rintro e w2 ⟨rfl,hb2⟩))
 go_ret
 exact ⟨rfl,hb1.next hb2⟩
def bl (s n:Int):Int:=if n<1 then 0 else wrap64 ((nx s).tmod n)
theorem yI {s n:Int} (h:1≤n):bl s n=wrap64 ((nx s).tmod n):=by unfold bl;rw [if_neg (by omega)]
theorem below (s n:Int) (w:World) (hn:n≤9223372036854775807) :
 Calls prog 94 #[.int .u64 s,.int .i64 n] w fun e w'=>e=.returned (.tuple #[.int .u64 (nx s),.int .i64 (bl s n)])∧ai w w':=by
 by_cases h:n<1
 ·go_enter Tryz.func94,Tryz.ntmps94
  go_wp2_with (go_at_call 130;refine (next _ _).mono ?_;rintro e w1 ⟨rfl,hb1⟩)
  go_ret2
  exact ⟨by simp [bl,h],hb1⟩
 ·have h1:1≤n:=by omega
  have hz:(n==0)=false:=by simp;omega
  go_enter Tryz.func94,Tryz.ntmps94
  go_wp2_with (go_at_call 130;refine (next _ _).mono ?_;rintro e w1 ⟨rfl,hb1⟩)
  go_quiet (fail)
  go_wp2
  go_ret2
  exact ⟨by rw [yI h1];rfl,hb1.dn _⟩
end Go.Proofs.YtkpooenofjdpmaaGreat
namespace Go.Proofs.YtkpooenofjdpmaaGreat
open Go.Proofs.Tryz (prog)
open Go.RowKit
open Go.ChangeShapes Go.WideShapes Go.ChangeAt
open Go.RowKit
structure Rd where
 id:Int
 ix:Int
 rn:Int
 acks:List Int
structure Rf where
 id:Int
 nodes:Int
 role:Int
 term:Int
 vote:Int
 leader:Int
 b:Int
 t:Int
 es:List Ent
 snap:ByteArray
 commit:Int
 elapsed:Int
 timeout:Int
 seed:Int
 votes:List Int
 next:List Int
 mtch:List Int
 sent:List Int
 round:Int
 reads:List Rd
 part:ByteArray
 partOf:Int
def zR:Rf:=⟨0,0,0,0,0,0,0,0,[],⟨#[]⟩,0,0,0,0,[],[],[],[],0,[],⟨#[]⟩,0⟩
def zM:Msg:={ k:=0,f:=0,t:=0,tm:=0,ix:=0,lt:=0,cm:=0,rd:=0,ok:=false,a:=0,d:=⟨#[]⟩,dn:=false,E:=none,c:=0,es:=[] }
def eO:Int:=1099511627775
def gv:List Int→Bool
 |a::b::r=>decide (a<b)&&gv (b::r)
 |_=>true
def fE (l:List Int) (n:Int):Bool:=l.all (fun x=>decide (1≤x)&&decide (x≤n))&&gv l
def pT (l:List Int) (n:Nat) (lo hi:Int):Bool:=decide (l.length=n)&&l.all fun x=>decide (lo≤x)&&decide (x≤hi)
def fQ (s:Rf) (q:Rd):Bool:=inb 1 1099511627776 q.id&&inb 0 s.commit q.ix&&inb 0 s.round q.rn&&fE q.acks s.nodes
def gn (s:Rf):Nat:=if s.role=2 then s.nodes.toNat else 0
def bH (s:Rf):Int:=dP s.b s.es
def ik (s:Rf):Bool:=
 decide (1≤s.nodes)&&decide (s.nodes≤7)&&inb 1 s.nodes s.id&&inb 0 2 s.role&&inb 0 eO s.term&&inb 0 s.nodes s.vote&&inb 0 s.nodes s.leader&&cD s.b s.t s.es&&decide (s.snap.size≤524288)&&(decide (s.b≠0)||decide (s.snap.size=0))&&
 inb 0 eO s.elapsed&&inb 0 eO s.timeout&&inb 0 eO s.round&&fE s.votes s.nodes&&decide (dp s.t s.es≤s.term)&&inb s.b (bH s) s.commit&&decide (s.part.size≤524288)&&inb 0 1099511625728 s.partOf&&(decide (s.partOf≠0)||decide (s.part.size=0))&&
 pT s.next (gn s) 1 (bH s+1)&&pT s.mtch (gn s) 0 (bH s)&&pT s.sent (gn s) 0 s.snap.size&&decide (s.reads.length≤32)&&(decide (gn s≠0)||decide (s.reads.length=0))&&s.reads.all (fQ s)
structure Sp where
 s:Rf
 out:List Msg
def at1 (l:List Int) (id:Int):Int:=l.getD (id-1).toNat 0
def eM (l:List Int) (id v:Int):List Int:=l.set (id-1).toNat v
def iy (s:Rf):Rf:={ s with seed:=nx s.seed,timeout:=10+bl s.seed 10,elapsed:=0 }
def rz (id n seed:Int):Rf:=iy { zR with id:=id,nodes:=n,seed:=seed }
def fw (s:Rf):Rf:={ s with votes:=[],next:=[],mtch:=[],sent:=[],reads:=[] }
def bC (s:Rf) (tm:Int):Rf:=
 let a:={ fw s with role:=0,leader:=0 }
 if s.term<tm then { a with term:=tm,vote:=0,part:=⟨#[]⟩,partOf:=0 } else a
def rH (s:Rf) (m:Msg):Msg:={ m with f:=s.id,tm:=s.term }
def Sp.tell (p:Sp) (m:Msg):Sp:=⟨p.s,p.out++[rH p.s m]⟩
def kA (s:Rf) (to:Int):Msg:=
 let nx:=at1 s.next to
 if nx≤s.b then
  let a:=at1 s.sent to
  let e:=min (a.toNat+1024) s.snap.size
  { zM with k:=5,t:=to,ix:=s.b,lt:=s.t,rd:=s.round,a:=a,d:=s.snap.extract a.toNat e,dn:=decide (e=s.snap.size) }
 else { zM with k:=3,t:=to,ix:=nx-1,lt:=er s.b s.t s.es (nx-1),cm:=s.commit,rd:=s.round,es:=(s.es.drop (nx-1-s.b).toNat).take 16 }
def dM (s:Rf):List Int:=((List.range s.nodes.toNat).map fun k=>((k+1:Nat):Int)).filter fun k=>decide (k≠s.id)
def Sp.send (p:Sp) (to:Int):Sp:=p.tell (kA p.s to)
def Sp.sends:Sp→List Int→Sp
 |p,[]=>p
 |p,x::r=>Sp.sends (p.send x) r
def Sp.all (p:Sp):Sp:=p.sends (dM p.s)
def ft (n:Int) (l:List Int):Bool:=decide (n.toNat<2*cv l n.toNat)
def dE (s:Rf):Rf:=
 let m:=eM s.mtch s.id (bH s)
 let i:=med m
 { s with mtch:=m,commit:=if s.commit<i∧er s.b s.t s.es i=s.term then i else s.commit }
def il (s:Rf):Bool:=decide (s.es.length=512)||decide (bH s=1099511627776)
def fy (s:Rf) (d:ByteArray):Rf:={ s with es:=s.es++[⟨bH s+1,s.term,d⟩] }
def lZ (p:Sp):Sp:=
 if il p.s then ⟨bC p.s p.s.term,p.out⟩ else
 let l:=bH p.s
 let a:={ fw p.s with role:=2,leader:=p.s.id,elapsed:=0,next:=List.replicate p.s.nodes.toNat (l+1),mtch:=List.replicate p.s.nodes.toNat 0,sent:=List.replicate p.s.nodes.toNat 0 }
 let q:=Sp.all ⟨fy a ⟨#[]⟩,p.out⟩
 ⟨dE q.s,q.out⟩
def kj (p:Sp):Sp:=if ft p.s.nodes p.s.votes then lZ p else p
def ja (s:Rf):Sp:=
 if s.term=eO then ⟨iy s,[]⟩ else
 let a:=iy { fw s with term:=s.term+1,vote:=s.id,role:=1,leader:=0,votes:=[s.id],part:=⟨#[]⟩,partOf:=0 }
 kj ((dM a).foldl (fun (p:Sp) k=>p.tell { zM with k:=1,t:=k,ix:=bH a,lt:=dp a.t a.es }) (⟨a,[]⟩:Sp))
def iC (s:Rf):Sp:=
 let a:={ s with elapsed:=min (s.elapsed+1) eO }
 if s.role=2 then (if 2≤a.elapsed then Sp.all ⟨{ a with elapsed:=0,round:=min (a.round+1) eO },[]⟩ else ⟨a,[]⟩)
 else if a.timeout≤a.elapsed then ja a else ⟨a,[]⟩
def ku (l:List Int) (x:Int):List Int:=if l.contains x then l else l.takeWhile (fun y=>decide (y<x))++x::l.dropWhile fun y=>decide (y<x)
def ph (p:Sp) (m:Msg) (ok:Bool) (i:Int):Sp:=p.tell { zM with k:=4,t:=m.f,ok:=ok,ix:=i,rd:=m.rd }
def jG (s:Rf) (m:Msg):Sp:=
 let ok:=gg s.b s.t s.es m.ix m.lt&&(decide (s.vote=0)||decide (s.vote=m.f))
 Sp.tell ⟨if ok then { s with vote:=m.f,elapsed:=0 } else s,[]⟩ { zM with k:=2,t:=m.f,ok:=ok }
def ss (s:Rf) (m:Msg):Sp:=if s.role=1∧m.ok=true then kj ⟨{ s with votes:=ku s.votes m.f },[]⟩ else ⟨s,[]⟩
def w_ (s:Rf) (id rn:Int):Rf:={ s with reads:=s.reads.map fun q=>if q.rn≤rn then { q with acks:=ku q.acks id } else q }
def vj (s0:Rf) (m:Msg):Sp:=
 if s0.role≠2 then ⟨s0,[]⟩ else
 let s:=w_ s0 m.f m.rd
 if m.k=6 then
  (if m.ix=s.b∧at1 s.next m.f≤s.b∧m.a≤s.snap.size then Sp.send ⟨{ s with sent:=eM s.sent m.f m.a },[]⟩ m.f else ⟨s,[]⟩)
 else if m.ok=false then
  Sp.send ⟨{ s with next:=eM s.next m.f (max (min (at1 s.next m.f-1) (m.ix+1)) (at1 s.mtch m.f+1)),sent:=eM s.sent m.f 0 },[]⟩ m.f
 else if m.ix≤bH s then
  let x:=max (at1 s.mtch m.f) m.ix
  let a:=dE { s with mtch:=eM s.mtch m.f x,next:=eM s.next m.f (x+1),sent:=eM s.sent m.f 0 }
  if x+1≤bH s then Sp.send ⟨a,[]⟩ m.f else ⟨a,[]⟩
 else ⟨s,[]⟩
def vN (s:Rf) (m:Msg):Sp:=
 if m.ix≤s.commit∨m.lt<er s.b s.t s.es s.commit then ph ⟨s,[]⟩ m true s.commit else
 let a:=if s.partOf≠m.ix then { s with partOf:=m.ix,part:=⟨#[]⟩ } else s
 let fits:=decide (m.a=a.part.size)&&decide (a.part.size+m.d.size≤524288)
 let c:=if fits then { a with part:=a.part++m.d } else a
 if fits&&m.dn then
  let keep:=decide (m.ix≤bH c∧er c.b c.t c.es m.ix=m.lt)
  let x:={ c with b:=m.ix,t:=m.lt,es:=if keep then c.es.drop (m.ix-c.b).toNat else [],snap:=c.part,commit:=m.ix,part:=⟨#[]⟩,partOf:=0 }
  ph ⟨x,[]⟩ m true x.commit
 else Sp.tell ⟨c,[]⟩ { zM with k:=6,t:=m.f,ix:=m.ix,a:=c.part.size,rd:=m.rd }
def zY (s:Rf) (i:Int) (d:ByteArray):Rf:={ s with b:=i,t:=er s.b s.t s.es i,es:=s.es.drop (i-s.b).toNat,snap:=d,sent:=s.sent.map fun _=>0 }
def zC (s:Rf) (d:ByteArray):Sp:=
 let a:=fy s d
 let p:=((dM a).filter fun k=>decide (at1 a.next k=bH a)).foldl (fun (p:Sp) k=>p.send k) (⟨a,[]⟩:Sp)
 ⟨dE p.s,p.out⟩
def Ay (s:Rf) (id:Int):Sp:=Sp.all ⟨{ s with round:=s.round+1,reads:=s.reads++[⟨id,s.commit,s.round+1,[s.id]⟩] },[]⟩
def Aj (s:Rf):Rf×List Rd:=({ s with reads:=s.reads.filter fun q=> !ft s.nodes q.acks },s.reads.filter fun q=>ft s.nodes q.acks)
def zX (s:Rf) (m:Msg):Bool:=match fO s.b s.t s.es (fS s.b m.ix m.es) with
 |[]=>false
 |e::_=>decide (e.i≤bH s)&&decide (e.i≤s.commit)
def qw (s:Rf) (m:Msg):Sp:=
 let r:=fv s.b s.t m.ix m.lt s.es m.es
 if r.1≠0 then ⟨s,[]⟩
 else if r.2.1=true then ph ⟨s,[]⟩ m false (max 0 (min (m.ix-1) (bH s)))
 else if zX s m then ⟨s,[]⟩
 else
  let j:=max (m.ix+(m.es.length:Int)) s.b
  ph ⟨{ s with es:=r.2.2,commit:=max s.commit (min m.cm j) },[]⟩ m true j
def ga (s:Rf) (m:Msg):Sp:=
 if m.k=1 then Sp.tell ⟨s,[]⟩ { zM with k:=2,t:=m.f } else if m.k=3∨m.k=5 then ph ⟨s,[]⟩ m false 0 else ⟨s,[]⟩
def wA (s:Rf) (m:Msg):Sp:=
 if s.role=2 then ⟨s,[]⟩ else
 let c:=if s.role=1 then bC s s.term else s
 let d:={ c with leader:=m.f,elapsed:=0 }
 if m.k=3 then qw d m else vN d m
def cN (s:Rf) (m:Msg):Sp:=
 let a:=if s.term<m.tm then bC s m.tm else s
 if m.tm<a.term then ga a m
 else if m.k=1 then jG a m
 else if m.k=2 then ss a m
 else if m.k=3∨m.k=5 then wA a m
 else vj a m
def wC (s:Rf) (m:Msg):Bool:=decide (m.t=s.id)&&decide (m.f≠s.id)&&decide (m.f≤s.nodes)&&(!(decide (m.k=3)||decide (m.k=5))||(decide (m.lt≤m.tm)&&m.es.all fun e=>decide (e.t≤m.tm)))
theorem dq (s:Rf) (tm:Int):(bC s tm).term=max s.term tm:=by
 unfold bC fw;simp only;split
 ·show tm=_;omega
 ·show s.term=_;omega
theorem oD (s:Rf) (tm:Int):(bC s tm).b=s.b∧(bC s tm).t=s.t∧(bC s tm).es=s.es∧(bC s tm).id=s.id∧(bC s tm).nodes=s.nodes∧(bC s tm).role=0∧(bC s tm).commit=s.commit:=by
 unfold bC fw;simp only;split <;> exact ⟨rfl,rfl,rfl,rfl,rfl,rfl,rfl⟩
theorem mX {a:Int} {l:List Int} (h:gv (a::l)=true):gv l=true:=by
 cases l with
 |nil=>rfl
 |cons b r=>simp only [gv,Bool.and_eq_true] at h;exact h.2
theorem pC {a:Int} {l:List Int} (h:gv (a::l)=true):∀ x∈l,a<x:=by
 induction l generalizing a with
 |nil=>intro x hx;cases hx
 |cons b r ih=>
  intro x hx;simp only [gv,Bool.and_eq_true,decide_eq_true_eq] at h;rcases List.mem_cons.1 hx with e | e
  ·omega
  ·have:=ih h.2 x e;omega
structure RfF (s:Rf):Prop where
 n:1≤s.nodes∧s.nodes≤7
 i:1≤s.id∧s.id≤s.nodes
 ro:0≤s.role∧s.role≤2
 te:0≤s.term∧s.term≤1099511627775
 vo:0≤s.vote∧s.vote≤s.nodes
 le:0≤s.leader∧s.leader≤s.nodes
 lg:cD s.b s.t s.es=true
 sn:s.snap.size≤524288
 sb:s.b≠0∨s.snap.size=0
 el:0≤s.elapsed∧s.elapsed≤1099511627775
 ti:0≤s.timeout∧s.timeout≤1099511627775
 rn:0≤s.round∧s.round≤1099511627775
 vs:fE s.votes s.nodes=true
 lt:dp s.t s.es≤s.term
 co:s.b≤s.commit∧s.commit≤bH s
 pa:s.part.size≤524288
 po:0≤s.partOf∧s.partOf≤1099511625728
 pp:s.partOf≠0∨s.part.size=0
 nx:s.next.length=gn s∧∀ x∈s.next,1≤x∧x≤bH s+1
 ma:s.mtch.length=gn s∧∀ x∈s.mtch,0≤x∧x≤bH s
 se:s.sent.length=gn s∧∀ x∈s.sent,0≤x∧x≤(s.snap.size:Int)
 rl:s.reads.length≤32
 r0:gn s≠0∨s.reads.length=0
 rd:∀ q∈s.reads,fQ s q=true
theorem qn {l:List Int} {n:Nat} {lo hi:Int} (h:pT l n lo hi=true):l.length=n∧∀ x∈l,lo≤x∧x≤hi:=by
 unfold pT at h;simp only [Bool.and_eq_true,List.all_eq_true,decide_eq_true_eq] at h;exact h
theorem mJ {s:Rf} (h:ik s=true):RfF s:=by
 unfold ik eO at h;simp only [Bool.and_eq_true,Bool.or_eq_true,decide_eq_true_eq,List.all_eq_true] at h;obtain ⟨⟨⟨⟨⟨⟨⟨⟨⟨⟨⟨⟨⟨⟨⟨⟨⟨⟨⟨⟨⟨⟨⟨⟨h1,h2⟩,h3⟩,h4⟩,h5⟩,h6⟩,h7⟩,h8⟩,h9⟩,h10⟩,h11⟩,h12⟩,h13⟩,h14⟩,h15⟩,h16⟩,h17⟩,h18⟩,h19⟩,h20⟩,h21⟩,h22⟩,h23⟩,h24⟩,h25⟩:=h;exact ⟨⟨h1,h2⟩,dv h3,dv h4,dv h5,dv h6,dv h7,h8,h9,h10,dv h11,dv h12,dv h13,h14,h15,dv h16,h17,dv h18,h19,qn h20,qn h21,qn h22,h23,h24,h25⟩
theorem jw {s:Rf} (h:s.role=2):gn s=s.nodes.toNat:=by unfold gn;rw [if_pos h]
theorem nH {s:Rf} (h:s.role≠2):gn s=0:=by unfold gn;rw [if_neg h]
theorem RfF.free {s:Rf} (h:RfF s) (hr:s.role≠2):s.next=[]∧s.mtch=[]∧s.sent=[]∧s.reads=[]:=by
 have h0:=nH hr;refine ⟨List.eq_nil_of_length_eq_zero (by rw [h.nx.1,h0]),List.eq_nil_of_length_eq_zero (by rw [h.ma.1,h0]),List.eq_nil_of_length_eq_zero (by rw [h.se.1,h0]),List.eq_nil_of_length_eq_zero (h.r0.resolve_left fun e=>e h0)⟩
theorem lV {l:List Int} {n:Int} (h:fE l n=true):(∀ x∈l,1≤x∧x≤n)∧gv l=true:=by
 unfold fE at h;simp only [Bool.and_eq_true,List.all_eq_true,decide_eq_true_eq] at h;exact h
theorem k8:∀ (l:List Int) (a b:Int),gv l=true→(∀ x∈l,a<x∧x≤b)→(l.length:Int)≤max 0 (b-a)
 |[],_,_,_,_=>by simp;omega
 |x::r,a,b,h,hx=>by
  have h1:=k8 r x b (mX h) fun y hy=>⟨pC h y hy,(hx y (List.mem_cons_of_mem _ hy)).2⟩
  have h2:=hx x (List.mem_cons_self);rw [List.length_cons];omega
theorem RfF.vl {s:Rf} (h:RfF s):s.votes.length≤7:=by
 have h1:=lV h.vs;have h2:=k8 s.votes 0 s.nodes h1.2 fun x hx=>⟨by have:=(h1.1 x hx).1;omega,(h1.1 x hx).2⟩
 have:=h.n.2;omega
theorem rG (B:Int) (e:Ent) (r:List Ent):dP B (e::r)=dP e.i r:=by
 unfold dP;cases r with
 |nil=>rfl
 |cons a s=>
  rw [List.getLast?_cons_cons];cases h:(a::s).getLast? with
  |none=>simp at h
  |some x=>rfl
theorem nb (T:Int) (e:Ent) (r:List Ent):dp T (e::r)=dp e.t r:=by
 unfold dp;cases r with
 |nil=>rfl
 |cons a s=>
  rw [List.getLast?_cons_cons];cases h:(a::s).getLast? with
  |none=>simp at h
  |some x=>rfl
theorem pt:∀ (xs:List Ent) (p t:Int) (e:Ent),d_ xs p t=true→gp e (dP p xs) (dp t xs)=true→d_ (xs++[e]) p t=true
 |[],p,t,e,_,h=>by show (gp e p t&&true)=true;rw [Bool.and_true];exact h
 |x::r,p,t,e,h,he=>by
  have h':(gp x p t&&d_ r (p+1) x.t)=true:=h;rw [Bool.and_eq_true] at h'
  have hx:x.i=p+1:=by
   have:=h'.1;unfold gp at this;simp only [Bool.and_eq_true,decide_eq_true_eq] at this;exact this.1.1.1
  rw [rG,nb,hx] at he;show (gp x p t&&d_ (r++[e]) (p+1) x.t)=true;rw [h'.1,pt r _ _ e h'.2 he];rfl
theorem RfF.add {s:Rf} (h:RfF s) (hf:il s=false) (d:ByteArray) (hd:d.size≤4096):cD s.b s.t (fy s d).es=true∧bH (fy s d)=bH s+1∧(fy s d).es.length=s.es.length+1:=by
 have hl:=fT h.lg;have hm:=h.lg;unfold cD at hm;simp only [Bool.and_eq_true,decide_eq_true_eq] at hm;obtain ⟨⟨⟨m1,m2⟩,m3⟩,m4⟩:=hm;unfold il at hf;simp only [Bool.or_eq_false_iff,decide_eq_false_iff_not] at hf;have hte:=h.te;have hlt:=h.lt;have hlr:bH s=s.b+s.es.length:=hl.1
 have e1:gp ⟨bH s+1,s.term,d⟩ (dP s.b s.es) (dp s.t s.es)=true:=by
  unfold gp;simp only [Bool.and_eq_true,decide_eq_true_eq];exact ⟨⟨⟨rfl,ff ⟨by show 1≤bH s+1;omega,by show bH s+1≤_;omega⟩⟩,ff ⟨by show max (dp s.t s.es) 0≤s.term;omega,hte.2⟩⟩,hd⟩
 have hr:=pt s.es s.b s.t _ m4 e1;have hlen:(fy s d).es.length=s.es.length+1:=by unfold fy;simp
 have hmay:cD s.b s.t (fy s d).es=true:=by
  unfold cD;simp only [Bool.and_eq_true,decide_eq_true_eq];exact ⟨⟨⟨m1,m2⟩,by rw [hlen];omega⟩,hr⟩
 refine ⟨hmay,?_,hlen⟩;have:=(fT hmay).1;show dP s.b (fy s d).es=_;rw [this,hlen,hlr];omega
def jO (id:Int) (k:Nat):List Int:=((List.range k).map fun j=>((j+1:Nat):Int)).filter fun j=>decide (j≠id)
theorem pG (id:Int) (k:Nat):jO id (k+1)=if ((k+1:Nat):Int)=id then jO id k else jO id k++[((k+1:Nat):Int)]:=by
 unfold jO;rw [List.range_succ,List.map_append,List.filter_append];by_cases h:((k+1:Nat):Int)=id
 ·rw [if_pos h];simp;omega
 ·rw [if_neg h];simp;omega
theorem vR {id:Int} {k:Nat} {x:Int} (h:x∈jO id k):1≤x∧x≤(k:Int)∧x≠id:=by
 unfold jO at h;simp only [List.mem_filter,List.mem_map,List.mem_range,decide_eq_true_eq] at h;obtain ⟨⟨j,hj,rfl⟩,h2⟩:=h;exact ⟨by omega,by omega,h2⟩
theorem ps:∀ (l r:List Int) (p:Sp),p.sends (l++r)=(p.sends l).sends r
 |[],_,_=>rfl
 |x::l,r,p=>ps l r (p.send x)
theorem kz:∀ (l:List Int) (p:Sp),p.sends l=⟨p.s,p.out++l.map fun k=>rH p.s (kA p.s k)⟩
 |[],p=>by show p=_;rw [List.map_nil,List.append_nil]
 |x::l,p=>by
  show (p.send x).sends l=_;rw [kz l (p.send x)];show (⟨p.s,(p.out++[rH p.s (kA p.s x)])++l.map fun k=>rH p.s (kA p.s k)⟩:Sp)=_;rw [List.append_assoc];rfl
theorem mP (p:Sp):p.all=⟨p.s,p.out++(dM p.s).map fun k=>rH p.s (kA p.s k)⟩:=kz _ _
structure Ra where
 E:Option Addr
 Ec:Nat
 V:Option Addr
 Vc:Nat
 X:Option Addr
 Xc:Nat
 M:Option Addr
 Mc:Nat
 S:Option Addr
 Sc:Nat
 Q:Option Addr
 Qc:Nat
 L:List (Rd×Option Addr×Nat)
def rdV (q:Rd×Option Addr×Nat):List Value:=[.int .i64 q.1.id,.int .i64 q.1.ix,.int .i64 q.1.rn,.slice q.2.1 q.1.acks.length q.2.2]
theorem ju (q:Rd×Option Addr×Nat):(rdV q).length=4:=rfl
theorem xP (L:List (Rd×Option Addr×Nat)):∀ u∈L.flatMap rdV,u.oneCell'=true:=wD (fun x _=>by simp [rdV,Value.oneCell'])
def rfV (s:Rf) (a:Ra):List Value:=[.int .i64 s.id,.int .i64 s.nodes,.int .i64 s.role,.int .i64 s.term,.int .i64 s.vote,.int .i64 s.leader,.int .i64 s.b,.int .i64 s.t,.slice a.E s.es.length a.Ec,.string s.snap,.int .i64 s.commit,.int .i64 s.elapsed,.int .i64 s.timeout,.int .u64 s.seed,.slice a.V s.votes.length a.Vc,.slice a.X s.next.length a.Xc,.slice a.M s.mtch.length a.Mc,.slice a.S s.sent.length a.Sc,.int .i64 s.round,.slice a.Q a.L.length a.Qc,.string s.part,.int .i64 s.partOf]
def a0:Ra:=⟨none,0,none,0,none,0,none,0,none,0,none,0,[]⟩
def IR (w:World) (A:Option Addr) (c:Nat) (l:List Int):Prop:=eu iV w A l∧l.length≤c∧c≤9223372036854775807∧(A=none→l.length=0∧c=0)
theorem IR.from_ {w w':World} {A:Option Addr} {c:Nat} {l:List Int} (h:IR w A c l) (hF:ai w w'):IR w' A c l:=⟨h.1.from_ hF,h.2⟩
theorem lU {w:World} {base e s n c:Nat} {A:Option Addr} {xs:List Value} (h:w.ownsRow base e s (.slice A n c) n xs):n≤c∧c≤9223372036854775807:=by
 rcases h.2 with ⟨h0,hx⟩ | ⟨g,cap,cur,hv,_,_,h3,h4,_⟩
 ·simp only [Value.slice.injEq] at h0;obtain ⟨_,rfl,rfl⟩:=h0;exact ⟨Nat.le_refl _,by omega⟩
 ·simp only [Value.slice.injEq] at hv;obtain ⟨_,_,rfl⟩:=hv;exact ⟨h3,h4⟩
theorem mC {w:World} {base c:Nat} {A:Option Addr} {l:List Int} (h:w.ownsRow base 3 1 (.slice A l.length c) l.length (l.map iV)):IR w A c l:=⟨(eu.own h).2,(lU h).1,(lU h).2,fun e=>by subst e;exact ⟨pD h,ru h⟩⟩
structure eX (w:World) (s:Rf) (a:Ra):Prop where
 e:cF w (.slice a.E s.es.length a.Ec) s.es
 v:IR w a.V a.Vc s.votes
 x:IR w a.X a.Xc s.next
 m:IR w a.M a.Mc s.mtch
 n:IR w a.S a.Sc s.sent
 r:a.L.map (fun q=>q.1)=s.reads
 q:im 4 rdV w a.Q a.L
 qc:a.L.length≤a.Qc∧a.Qc≤9223372036854775807∧(a.Q=none→a.L.length=0∧a.Qc=0)
 k:∀ q∈a.L,IR w q.2.1 q.2.2 q.1.acks
theorem eX.from_ {w w':World} {s:Rf} {a:Ra} (h:eX w s a) (hF:ai w w'):eX w' s a:=
 ⟨h.e.from_ hF,h.v.from_ hF,h.x.from_ hF,h.m.from_ hF,h.n.from_ hF,h.r,h.q.from_ hF,h.qc,fun q hq=>(h.k q hq).from_ hF⟩
def Col (tag:Nat→Nat) (c:Nat) (A:Option Addr):Prop:=∀ k,A.map (·.block)=some k→tag k=c
theorem Col.none {tag:Nat→Nat} {c:Nat}:Col tag c none:=fun _ h=>by cases h
theorem Col.not {tag:Nat→Nat} {c d:Nat} {A:Option Addr} (h:Col tag c A) (hne:c≠d):∀ k,A.map (·.block)=some k→¬ tag k=d:=fun k hk e=>hne ((h k hk).symm.trans e)
def fI (n c:Nat) (tag:Nat→Nat):Nat→Nat:=fun k=>if k<n then tag k else c
theorem da {n c k:Nat} {tag:Nat→Nat} (h:k<n):fI n c tag k=tag k:=if_pos h
theorem dY {n c k:Nat} {tag:Nat→Nat} (h:n≤k):fI n c tag k=c:=if_neg (Nat.not_lt.2 h)
theorem Col.re {tag:Nat→Nat} {c d n:Nat} {A:Option Addr} (h:Col tag c A) (hB:∀ k,A.map (·.block)=some k→k<n):Col (fI n d tag) c A:=fun k hk=>(da (hB k hk)).trans (h k hk)
theorem Col.new {tag:Nat→Nat} {c n:Nat} {A A':Option Addr} (h:Col tag c A) (hB:∀ k,A.map (·.block)=some k→k<n) (hA:∀ k,A'.map (·.block)=some k→A.map (·.block)=some k∨n≤k):Col (fI n c tag) c A':=fun k hk=>by
 rcases hA k hk with e | e
 ·exact (da (hB k e)).trans (h k e)
 ·exact dY e
theorem ej {w:World} {bs e s n c m:Nat} {A:Option Addr} {l:List Value} (h:w.ownsRow bs e s (.slice A n c) m l):∀ k,A.map (·.block)=some k→k<w.heap.size:=fun k hk=>(fe h k hk).2
structure cZ (y:Nat) (w:World) (tag:Nat→Nat) (s:Rf) (a:Ra):Prop where
 e:y≠0→w.ownsRow 0 99 3 (.slice a.E s.es.length a.Ec) s.es.length (eb s.es)∧Col tag 0 a.E
 v:y≠1→w.ownsRow 0 3 1 (.slice a.V s.votes.length a.Vc) s.votes.length (s.votes.map iV)∧Col tag 1 a.V
 x:y≠2→w.ownsRow 0 3 1 (.slice a.X s.next.length a.Xc) s.next.length (s.next.map iV)∧Col tag 2 a.X
 m:y≠3→w.ownsRow 0 3 1 (.slice a.M s.mtch.length a.Mc) s.mtch.length (s.mtch.map iV)∧Col tag 3 a.M
 n:y≠4→w.ownsRow 0 3 1 (.slice a.S s.sent.length a.Sc) s.sent.length (s.sent.map iV)∧Col tag 4 a.S
 r:y≠5→a.L.map (fun q=>q.1)=s.reads
 q:y≠5→w.ownsRow 0 54 4 (.slice a.Q a.L.length a.Qc) a.L.length (a.L.flatMap rdV)∧Col tag 5 a.Q
 k:∀ (i:Nat) (h:i<a.L.length),y≠1001+2*i→w.ownsRow 0 3 1 (.slice a.L[i].2.1 a.L[i].1.acks.length a.L[i].2.2) a.L[i].1.acks.length (a.L[i].1.acks.map iV)∧Col tag (1001+2*i) a.L[i].2.1
abbrev bw (w:World) (tag:Nat→Nat) (s:Rf) (a:Ra):Prop:=cZ 7 w tag s a
theorem ek {w w':World} {tag:Nat→Nat} {c d base e s n cc:Nat} {A:Option Addr} {xs:List Value} (hC:Chg (fun k=>tag k=c) w w') (hne:d≠c) (h:w.ownsRow base e s (.slice A n cc) n xs∧Col tag d A):w'.ownsRow base e s (.slice A n cc) n xs∧Col (fI w.heap.size c tag) d A:=
 ⟨eH h.1 hC (h.2.not hne),h.2.re (ej h.1)⟩
theorem bw.but {w w':World} {c:Nat} {tag:Nat→Nat} {s:Rf} {a:Ra} (h:bw w tag s a) (hC:Chg (fun k=>tag k=c) w w'):cZ c w' (fI w.heap.size c tag) s a:=
 ⟨fun hx=>ek hC hx.symm (h.e (by decide)),fun hx=>ek hC hx.symm (h.v (by decide)),fun hx=>ek hC hx.symm (h.x (by decide)),fun hx=>ek hC hx.symm (h.m (by decide)),fun hx=>ek hC hx.symm (h.n (by decide)),fun _=>h.r (by decide),fun hx=>ek hC hx.symm (h.q (by decide)),fun i hi hx=>ek hC hx.symm (h.k i hi (by omega))⟩
section
variable {w w':World} {tag:Nat→Nat} {s:Rf} {a:Ra}
theorem cZ.log (h:cZ 0 w tag s a) {A:Option Addr} {c n:Nat} {l:List Ent} (B T:Int) (hn:n=l.length) (ho:w.ownsRow 0 99 3 (.slice A n c) n (eb l)) (hc:Col tag 0 A):bw w tag { s with b:=B,t:=T,es:=l } { a with E:=A,Ec:=c }:=by
 subst hn;exact ⟨fun _=>⟨ho,hc⟩,fun _=>h.v (by decide),fun _=>h.x (by decide),fun _=>h.m (by decide),fun _=>h.n (by decide),fun _=>h.r (by decide),fun _=>h.q (by decide),fun i hi _=>h.k i hi (by omega)⟩
theorem cZ.votes (h:cZ 1 w tag s a) {A:Option Addr} {c n:Nat} {l:List Int} (hn:n=l.length) (ho:w.ownsRow 0 3 1 (.slice A n c) n (l.map iV)) (hc:Col tag 1 A):bw w tag { s with votes:=l } { a with V:=A,Vc:=c }:=by
 subst hn;exact ⟨fun _=>h.e (by decide),fun _=>⟨ho,hc⟩,fun _=>h.x (by decide),fun _=>h.m (by decide),fun _=>h.n (by decide),fun _=>h.r (by decide),fun _=>h.q (by decide),fun i hi _=>h.k i hi (by omega)⟩
theorem cZ.next (h:cZ 2 w tag s a) {A:Option Addr} {c n:Nat} {l:List Int} (hn:n=l.length) (ho:w.ownsRow 0 3 1 (.slice A n c) n (l.map iV)) (hc:Col tag 2 A):bw w tag { s with next:=l } { a with X:=A,Xc:=c }:=by
 subst hn;exact ⟨fun _=>h.e (by decide),fun _=>h.v (by decide),fun _=>⟨ho,hc⟩,fun _=>h.m (by decide),fun _=>h.n (by decide),fun _=>h.r (by decide),fun _=>h.q (by decide),fun i hi _=>h.k i hi (by omega)⟩
theorem cZ.mtch (h:cZ 3 w tag s a) {A:Option Addr} {c n:Nat} {l:List Int} (hn:n=l.length) (ho:w.ownsRow 0 3 1 (.slice A n c) n (l.map iV)) (hc:Col tag 3 A):bw w tag { s with mtch:=l } { a with M:=A,Mc:=c }:=by
 subst hn;exact ⟨fun _=>h.e (by decide),fun _=>h.v (by decide),fun _=>h.x (by decide),fun _=>⟨ho,hc⟩,fun _=>h.n (by decide),fun _=>h.r (by decide),fun _=>h.q (by decide),fun i hi _=>h.k i hi (by omega)⟩
theorem cZ.sent (h:cZ 4 w tag s a) {A:Option Addr} {c n:Nat} {l:List Int} (hn:n=l.length) (ho:w.ownsRow 0 3 1 (.slice A n c) n (l.map iV)) (hc:Col tag 4 A):bw w tag { s with sent:=l } { a with S:=A,Sc:=c }:=by
 subst hn;exact ⟨fun _=>h.e (by decide),fun _=>h.v (by decide),fun _=>h.x (by decide),fun _=>h.m (by decide),fun _=>⟨ho,hc⟩,fun _=>h.r (by decide),fun _=>h.q (by decide),fun i hi _=>h.k i hi (by omega)⟩
theorem c6 {e s:Nat}:w.ownsRow 0 e s (.slice none 0 0) 0 []:=World.ownsRow_nil _ _ _ _
theorem bw.alone (h:bw w tag s a):bw w tag (fw s) { a0 with E:=a.E,Ec:=a.Ec }:=
 ⟨fun _=>h.e (by decide),fun _=>⟨c6,Col.none⟩,fun _=>⟨c6,Col.none⟩,fun _=>⟨c6,Col.none⟩,fun _=>⟨c6,Col.none⟩,fun _=>rfl,fun _=>⟨c6,Col.none⟩,fun i hi _=>absurd hi (Nat.not_lt_zero _)⟩
theorem bw.same {s':Rf} (h:bw w tag s a) (he:s'.es=s.es) (hv:s'.votes=s.votes) (hx:s'.next=s.next) (hm:s'.mtch=s.mtch) (hn:s'.sent=s.sent) (hr:s'.reads=s.reads):bw w tag s' a:=
 ⟨by rw [he];exact h.e,by rw [hv];exact h.v,by rw [hx];exact h.x,by rw [hm];exact h.m,by rw [hn];exact h.n,by rw [hr];exact h.r,h.q,h.k⟩
theorem bw.from_ (h:bw w tag s a) (hF:ai w w'):bw w' tag s a:=
 ⟨fun hx=>⟨(h.e hx).1.kept_from hF,(h.e hx).2⟩,fun hx=>⟨(h.v hx).1.kept_from hF,(h.v hx).2⟩,fun hx=>⟨(h.x hx).1.kept_from hF,(h.x hx).2⟩,fun hx=>⟨(h.m hx).1.kept_from hF,(h.m hx).2⟩,fun hx=>⟨(h.n hx).1.kept_from hF,(h.n hx).2⟩,h.r,fun hx=>⟨(h.q hx).1.kept_from hF,(h.q hx).2⟩,fun i hi hx=>⟨(h.k i hi hx).1.kept_from hF,(h.k i hi hx).2⟩⟩
theorem bw.re (h:bw w tag s a) (d:Nat):bw w (fI w.heap.size d tag) s a:=
 ⟨fun hx=>⟨(h.e hx).1,(h.e hx).2.re (ej (h.e hx).1)⟩,fun hx=>⟨(h.v hx).1,(h.v hx).2.re (ej (h.v hx).1)⟩,fun hx=>⟨(h.x hx).1,(h.x hx).2.re (ej (h.x hx).1)⟩,fun hx=>⟨(h.m hx).1,(h.m hx).2.re (ej (h.m hx).1)⟩,fun hx=>⟨(h.n hx).1,(h.n hx).2.re (ej (h.n hx).1)⟩,h.r,fun hx=>⟨(h.q hx).1,(h.q hx).2.re (ej (h.q hx).1)⟩,fun i hi hx=>⟨(h.k i hi hx).1,(h.k i hi hx).2.re (ej (h.k i hi hx).1)⟩⟩
theorem bw.rd (h:bw w tag s a):eX w s a:=
 ⟨cF.of_own (h.e (by decide)).1 rfl,mC (h.v (by decide)).1,mC (h.x (by decide)).1,mC (h.m (by decide)).1,mC (h.n (by decide)).1,h.r (by decide),(im.own ju (by decide) (h.q (by decide)).1).2,⟨(lU (h.q (by decide)).1).1,(lU (h.q (by decide)).1).2,fun e=>by have h9:=(h.q (by decide)).1;rw [e] at h9;exact ⟨pD h9,ru h9⟩⟩,fun q hq=>by
  obtain ⟨i,hi,rfl⟩:=List.getElem_of_mem hq;exact mC (h.k i hi (by omega)).1⟩
theorem cZ.reads (h:cZ 5 w tag s a) {A:Option Addr} {c n:Nat} (hn:n=a.L.length) (ho:w.ownsRow 0 54 4 (.slice A n c) n (a.L.flatMap rdV)) (hc:Col tag 5 A):bw w tag { s with reads:=a.L.map (fun q=>q.1) } { a with Q:=A,Qc:=c }:=by
 subst hn;exact ⟨fun _=>h.e (by decide),fun _=>h.v (by decide),fun _=>h.x (by decide),fun _=>h.m (by decide),fun _=>h.n (by decide),fun _=>rfl,fun _=>⟨ho,hc⟩,fun i hi _=>h.k i hi (by omega)⟩
theorem cZ.ack (h:cZ 5 w tag s a) (hF:ai w w') {q:Rd} {A:Option Addr} {c:Nat} (ho:w'.ownsRow w.heap.size 3 1 (.slice A q.acks.length c) q.acks.length (q.acks.map iV)):cZ 5 w' (fI w.heap.size (1001+2*a.L.length) tag) s { a with L:=a.L++[(q,A,c)] }:=by
 have re:∀ {d e s n cc:Nat} {A:Option Addr} {xs:List Value},w.ownsRow 0 e s (.slice A n cc) n xs∧Col tag d A→w'.ownsRow 0 e s (.slice A n cc) n xs∧Col (fI w.heap.size (1001+2*a.L.length) tag) d A:=fun h=>⟨h.1.kept_from hF,h.2.re (ej h.1)⟩
 refine ⟨fun _=>re (h.e (by decide)),fun _=>re (h.v (by decide)),fun _=>re (h.x (by decide)),fun _=>re (h.m (by decide)),fun _=>re (h.n (by decide)),fun e=>absurd rfl e,fun e=>absurd rfl e,fun i hi _=>?_⟩;by_cases hi':i<a.L.length
 ·simp only [List.getElem_append_left hi'];exact re (h.k i hi' (by omega))
 ·obtain rfl:i=a.L.length:=by simp only [List.length_append,List.length_singleton] at hi;omega
  simp only [List.getElem_append_right (Nat.le_refl _),Nat.sub_self,List.getElem_singleton];exact ⟨eU ho (Nat.zero_le _),fun k hk=>dY (fe ho k hk).1⟩
theorem cZ.five {g:Nat} (h:cZ 5 w tag s a) (hO:fc g w w') (hg:tag g=5):cZ 5 w' tag s a:=by
 have re:∀ {d e s n cc:Nat} {A:Option Addr} {xs:List Value},d≠5→w.ownsRow 0 e s (.slice A n cc) n xs∧Col tag d A→w'.ownsRow 0 e s (.slice A n cc) n xs∧Col tag d A:=fun hd h=>⟨gC h.1 hO fun k hk e=>hd ((h.2 k hk).symm.trans (e ▸ hg)),h.2⟩
 exact ⟨fun _=>re (by decide) (h.e (by decide)),fun _=>re (by decide) (h.v (by decide)),fun _=>re (by decide) (h.x (by decide)),fun _=>re (by decide) (h.m (by decide)),fun _=>re (by decide) (h.n (by decide)),fun e=>absurd rfl e,fun e=>absurd rfl e,fun i hi _=>re (by omega) (h.k i hi (by omega))⟩
theorem cZ.from_ {y:Nat} (h:cZ y w tag s a) (hF:ai w w'):cZ y w' tag s a:=
 ⟨fun hx=>⟨(h.e hx).1.kept_from hF,(h.e hx).2⟩,fun hx=>⟨(h.v hx).1.kept_from hF,(h.v hx).2⟩,fun hx=>⟨(h.x hx).1.kept_from hF,(h.x hx).2⟩,fun hx=>⟨(h.m hx).1.kept_from hF,(h.m hx).2⟩,fun hx=>⟨(h.n hx).1.kept_from hF,(h.n hx).2⟩,h.r,fun hx=>⟨(h.q hx).1.kept_from hF,(h.q hx).2⟩,fun i hi hx=>⟨(h.k i hi hx).1.kept_from hF,(h.k i hi hx).2⟩⟩
theorem bw.zero:bw w tag zR a0:=
 ⟨fun _=>⟨c6,Col.none⟩,fun _=>⟨c6,Col.none⟩,fun _=>⟨c6,Col.none⟩,fun _=>⟨c6,Col.none⟩,fun _=>⟨c6,Col.none⟩,fun _=>rfl,fun _=>⟨c6,Col.none⟩,fun _ hi _=>absurd hi (Nat.not_lt_zero _)⟩
end
structure eF (w:World) (tag:Nat→Nat) (out:List Msg) (O:Option Addr) (oc:Nat) (L:List Msg):Prop where
 o:w.ownsRow 0 39 13 (.slice O L.length oc) L.length (L.flatMap bM)
 l:L.map pl=out
 e:∀ (j:Nat) (h:j<L.length),w.ownsRow 0 99 3 (.slice L[j].E L[j].es.length L[j].c) L[j].es.length (eb L[j].es)∧Col tag (1000+2*j) L[j].E
 c:Col tag 6 O
def StC (c:Nat):Prop:=c≤5∨∃ i,c=1001+2*i
section
variable {w0 w w' w1 w2:World} {tag:Nat→Nat} {out:List Msg} {O:Option Addr} {oc c T g:Nat} {L:List Msg} {Z Z':Nat→Prop} {p p':Sp} {a a':Ra} {s':Rf}
theorem eF.chg (h:eF w tag out O oc L) (hC:Chg (fun k=>tag k=c) w w') (h6:6≠c) (hj:∀ j,j<L.length→1000+2*j≠c):eF w' (fI w.heap.size c tag) out O oc L:=
 ⟨(ek hC h6 ⟨h.o,h.c⟩).1,h.l,fun j hj'=>ek hC (hj j hj') (h.e j hj'),(ek hC h6 ⟨h.o,h.c⟩).2⟩
theorem eF.from_ (h:eF w tag out O oc L) (hF:ai w w'):eF w' tag out O oc L:=
 ⟨h.o.kept_from hF,h.l,fun j hj=>⟨(h.e j hj).1.kept_from hF,(h.e j hj).2⟩,h.c⟩
theorem eF.re (h:eF w tag out O oc L) (d:Nat):eF w (fI w.heap.size d tag) out O oc L:=
 ⟨h.o,h.l,fun j hj=>⟨(h.e j hj).1,(h.e j hj).2.re (ej (h.e j hj).1)⟩,h.c.re (ej h.o)⟩
theorem StC.six (h:StC c):6≠c:=by rcases h with h | ⟨i,h⟩ <;> omega
theorem StC.eight (h:StC c):8≠c:=by rcases h with h | ⟨i,h⟩ <;> omega
theorem StC.even (h:StC c) (j:Nat):1000+2*j≠c:=by rcases h with h | ⟨i,h⟩ <;> omega
structure gQ (w:World) (Z:Nat→Prop) (T g:Nat) (tag:Nat→Nat) (p:Sp) (a:Ra) (O:Option Addr) (oc:Nat) (L:List Msg):Prop where
 b:Blk w g T (rfV p.s a++[Value.slice O L.length oc]).toArray
 f:bw w tag p.s a
 m:eF w tag p.out O oc L
 gc:tag g=7
 z:∀ k,Z k→tag k=8
theorem gQ.from_ (h:gQ w Z T g tag p a O oc L) (hF:ai w w'):gQ w' Z T g tag p a O oc L:=⟨h.b.from_ hF,h.f.from_ hF,h.m.from_ hF,h.gc,h.z⟩
structure a_ (w0:World) (Z:Nat→Prop) (w:World) (T g:Nat) (p:Sp):Prop where
 ex:∃ tag a O oc L,gQ w Z T g tag p a O oc L
 zl:∀ k,Z k→k<w0.heap.size
 fr:Chg (fun k=>¬ Z k) w0 w
theorem a_.from_ (h:a_ w0 Z w T g p) (hF:ai w w'):a_ w0 Z w' T g p:=by
 obtain ⟨tag,a,O,oc,L,hs⟩:=h.ex;exact ⟨⟨tag,a,O,oc,L,hs.from_ hF⟩,h.zl,h.fr.next hF.toChg⟩
theorem a_.zw (h:a_ w0 Z w T g p):∀ k,Z k→k<w.heap.size:=fun k hk=>Nat.lt_of_lt_of_le (h.zl k hk) h.fr.size
theorem gQ.new (h:gQ w Z T g tag p a O oc L) (hZ:∀ k,Z k→k<w.heap.size) (hF:ai w w') (d:Nat):gQ w' Z T g (fI w.heap.size d tag) p a O oc L:=
 ⟨h.b.from_ hF,(h.f.re d).from_ hF,(h.m.re d).from_ hF,(da h.b.lt).trans h.gc,fun k hk=>(da (hZ k hk)).trans (h.z k hk)⟩
theorem a_.at_ (h:a_ w0 Z w T g p) (hF:ai w w1) (hZ:∀ k,Z' k→k<w1.heap.size∧(Z k∨w.heap.size≤k)):a_ w1 Z' w1 T g p:=by
 obtain ⟨tag,a,O,oc,L,hs⟩:=h.ex;refine ⟨⟨fI w.heap.size 8 tag,a,O,oc,L,⟨hs.b.from_ hF,(hs.f.re 8).from_ hF,(hs.m.re 8).from_ hF,(da hs.b.lt).trans hs.gc,fun k hk=>?_⟩⟩,fun k hk=>(hZ k hk).1,Chg.rfl_⟩;rcases Nat.lt_or_ge k w.heap.size with e | e
 ·rw [da e];exact hs.z k ((hZ k hk).2.resolve_right (by omega))
 ·exact dY e
theorem a_.back (h:a_ w0 Z w T g p) (hF:ai w w1) (h':a_ w1 Z' w' T g p') (hZ:∀ k,Z k→Z' k):a_ w0 Z w' T g p':=by
 obtain ⟨tag,a,O,oc,L,hs⟩:=h'.ex;exact ⟨⟨tag,a,O,oc,L,⟨hs.b,hs.f,hs.m,hs.gc,fun k hk=>hs.z k (hZ k hk)⟩⟩,h.zl,(h.fr.next hF.toChg).next (h'.fr.wide fun k hk=>.inl fun e=>hk (hZ k e))⟩
theorem a_.kept {k t:Nat} {cs:Array Value} (h:a_ w0 Z w T g p) (hk:Z k) (hb:Blk w0 k t cs):Blk w k t cs:=hb.chg h.fr fun e=>e hk
theorem gI {w w':World} {tag:Nat→Nat} {g d base e s n cc:Nat} {A:Option Addr} {xs:List Value} (hC:Chg (fun k=>k=g) w w') (hg:tag g=7) (hd:d≠7) (h:w.ownsRow base e s (.slice A n cc) n xs∧Col tag d A):w'.ownsRow base e s (.slice A n cc) n xs∧Col tag d A:=
 ⟨eH h.1 hC (fun k hk e=>hd ((h.2 k hk).symm.trans (by rw [show k=g from e];exact hg))),h.2⟩
theorem bw.chgG (h:bw w tag s' a) (hC:Chg (fun k=>k=g) w w') (hg:tag g=7):bw w' tag s' a:=
 ⟨fun hx=>gI hC hg (by decide) (h.e hx),fun hx=>gI hC hg (by decide) (h.v hx),fun hx=>gI hC hg (by decide) (h.x hx),fun hx=>gI hC hg (by decide) (h.m hx),fun hx=>gI hC hg (by decide) (h.n hx),h.r,fun hx=>gI hC hg (by decide) (h.q hx),fun i hi hx=>gI hC hg (by omega) (h.k i hi hx)⟩
theorem eF.chgG (h:eF w tag out O oc L) (hC:Chg (fun k=>k=g) w w') (hg:tag g=7):eF w' tag out O oc L:=
 ⟨(gI hC hg (by decide) ⟨h.o,h.c⟩).1,h.l,fun j hj=>gI hC hg (by omega) (h.e j hj),h.c⟩
theorem a_.put (h:a_ w0 Z w T g p) (hs:gQ w Z T g tag p a O oc L) (hC:Chg (fun k=>tag k=c) w w1) (hc:StC c) (hf:bw w1 (fI w.heap.size c tag) s' a') (hO:Chg (fun k=>k=g) w1 w2) (hb:Blk w2 g T (rfV s' a'++[Value.slice O L.length oc]).toArray):gQ w2 Z T g (fI w.heap.size c tag) ⟨s',p.out⟩ a' O oc L∧a_ w0 Z w2 T g ⟨s',p.out⟩:=by
 have hg:fI w.heap.size c tag g=7:=(da hs.b.lt).trans hs.gc;have hz:∀ k,Z k→fI w.heap.size c tag k=8:=fun k hk=>(da (Nat.lt_of_lt_of_le (h.zl k hk) h.fr.size)).trans (hs.z k hk)
 have h1:gQ w2 Z T g (fI w.heap.size c tag) ⟨s',p.out⟩ a' O oc L:=⟨hb,hf.chgG hO hg,(hs.m.chg hC hc.six (fun j _=>hc.even j)).chgG hO hg,hg,hz⟩;refine ⟨h1,⟨⟨_,_,_,_,_,h1⟩,h.zl,?_⟩⟩;refine (h.fr.next (hC.wide fun k hk=>.inl fun hz1=>?_)).next (hO.wide fun k hk=>.inl fun hz1=>?_)
 ·exact hc.eight ((hs.z k hz1).symm.trans hk)
 ·have:=hz k hz1;rw [show k=g from hk,hg] at this;cases this
theorem a_.set (h:a_ w0 Z w T g p) (hs:gQ w Z T g tag p a O oc L) (hO:Chg (fun k=>k=g) w w2) (hf:bw w tag s' a') (hb:Blk w2 g T (rfV s' a'++[Value.slice O L.length oc]).toArray):gQ w2 Z T g tag ⟨s',p.out⟩ a' O oc L∧a_ w0 Z w2 T g ⟨s',p.out⟩:=by
 have h1:gQ w2 Z T g tag ⟨s',p.out⟩ a' O oc L:=⟨hb,hf.chgG hO hs.gc,hs.m.chgG hO hs.gc,hs.gc,hs.z⟩;refine ⟨h1,⟨⟨_,_,_,_,_,h1⟩,h.zl,h.fr.next (hO.wide fun k hk=>.inl fun hz1=>?_)⟩⟩;have:=hs.z k hz1;rw [show k=g from hk,hs.gc] at this;cases this
theorem cZ.six (h:cZ 6 w tag s' a):bw w tag s' a:=
 ⟨fun _=>h.e (by decide),fun _=>h.v (by decide),fun _=>h.x (by decide),fun _=>h.m (by decide),fun _=>h.n (by decide),fun _=>h.r (by decide),fun _=>h.q (by decide),fun i hi _=>h.k i hi (by omega)⟩
theorem a_.push {w3:World} {O':Option Addr} {n' oc':Nat} {x:Msg} (h:a_ w0 Z w T g p) (hs:gQ w Z T g tag p a O oc L) (hE:w.ownsRow 0 99 3 (.slice x.E x.es.length x.c) x.es.length (eb x.es)∧Col tag (1000+2*L.length) x.E) (hF:ai w w1) (hG:w1.grownBy w2 (O.map (·.block)))
 (ho:w2.ownsRow 0 39 13 (.slice O' n' oc') n' (L.flatMap bM++bM x)) (hn:n'=L.length+1) (hL:∀ k,O'.map (·.block)=some k→O.map (·.block)=some k∨w.heap.size≤k) (hO:fc g w2 w3) (hb:Blk w3 g T (rfV p.s a++[Value.slice O' n' oc']).toArray):a_ w0 Z w3 T g ⟨p.s,p.out++[pl x]⟩:=by
 subst hn;have hC:Chg (fun k=>tag k=6) w w2:=(ai.toChg hF).next (Chg.of_grown hG fun k hk=>hs.m.c k hk);have hg:fI w.heap.size 6 tag g=7:=(da hs.b.lt).trans hs.gc;have hz:∀ k,Z k→fI w.heap.size 6 tag k=8:=fun k hk=>(da (Nat.lt_of_lt_of_le (h.zl k hk) h.fr.size)).trans (hs.z k hk)
 have hm:eF w2 (fI w.heap.size 6 tag) (p.out++[pl x]) O' oc' (L++[x]):=by
  refine ⟨?_,by rw [List.map_append,hs.m.l];rfl,fun j hj=>?_,hs.m.c.new (ej hs.m.o) hL⟩
  ·rw [List.flatMap_append,List.length_append];simpa using ho
  ·by_cases hj':j<L.length
   ·rw [List.getElem_append_left hj'];exact ek hC (by omega) (hs.m.e j hj')
   ·have hj2:j=L.length:=by rw [List.length_append,List.length_singleton] at hj;omega
    subst hj2;rw [List.getElem_append_right (Nat.le_refl _)];simp only [Nat.sub_self,List.getElem_singleton];exact ek hC (by omega) hE
 have hO2:Chg (fun k=>k=g) w2 w3:=hO.toChg rfl;have h1:gQ w3 Z T g (fI w.heap.size 6 tag) ⟨p.s,p.out++[pl x]⟩ a O' oc' (L++[x]):=⟨by rw [List.length_append];exact hb,((hs.f.but hC).six).chgG hO2 hg,hm.chgG hO2 hg,hg,hz⟩;refine ⟨⟨_,_,_,_,_,h1⟩,h.zl,(h.fr.next (hC.wide fun k hk=>.inl fun hz1=>?_)).next (hO2.wide fun k hk=>.inl fun hz1=>?_)⟩
 ·have:=hs.z k hz1;rw [hk] at this;cases this
 ·have:=hz k hz1;rw [show k=g from hk,hg] at this;cases this
end
section
variable {P:Program} {ops:Array Oper} {Q:Exit→Act→World→Prop} {rest:List Oper} {n:Fr} {L:List (Nat×Value)} {w:World} {ty:TypeId} {pos:String} {after:Array Edge} {t:TypeId} {x y:Operand} {T g:Nat} {s s':Rf} {a a':Ra} {R:List Value}
theorem lS (s:Rf) (a:Ra):(rfV s a).length=22:=rfl
theorem dO (hb:Blk w g T (rfV s a++R).toArray) (k:Nat) {v:Value} (h:(rfV s a)[k]? =some v):w.cell? ⟨g,k,none⟩=some v:=by
 rw [hb.cell,←h];have hk:k<(rfV s a).length:=(List.getElem?_eq_some_iff.1 h).1;simp only [List.getElem?_toArray];exact List.getElem?_append_left hk
theorem yY {k:Nat} {v:Value} (hP:Blk w g T ((rfV s a++R).toArray.setIfInBounds k v)) (e:k<22∧(rfV s a).set k v=rfV s' a'):Blk w g T (rfV s' a'++R).toArray:=by
 rw [List.setIfInBounds_toArray,List.set_append_left _ _ (by rw [lS];exact e.1),e.2] at hP;exact hP
theorem cW {k:Nat} {v:Value} (ht:eg P t=some 1) (hx:ev n L x=.pointer (some ⟨g,k,none⟩)) (hy:ev n L y=v) (h1:v.oneCell'=true) (hb:Blk w g T (rfV s a++R).toArray) (e:k<22∧(rfV s a).set k v=rfV s' a')
 (kk:∀ w',fc g w w'→Blk w' g T (rfV s' a'++R).toArray→St P ops Q rest n L w'):St P ops Q (⟨none,.store t x y,ty,pos,after,none⟩::rest) n L w:=
 dD ht hx hy h1 hb (by have:=e.1;simp [lS];omega) fun w' o b=>kk w' o (yY b e)
theorem pn {b t9:Int} {E:Option Addr} {n9 c:Nat} {es:List Ent} (hn:n9=es.length) (ht:eg P t=some 3) (hx:ev n L x=.pointer (some ⟨g,6,none⟩)) (hy:ev n L y=.agg #[.int .i64 b,.int .i64 t9,.slice E n9 c]) (hb:Blk w g T (rfV s a++R).toArray)
 (kk:∀ w',fc g w w'→Blk w' g T (rfV { s with b:=b,t:=t9,es:=es } { a with E:=E,Ec:=c }++R).toArray→St P ops Q rest n L w'):St P ops Q (⟨none,.store t x y,ty,pos,after,none⟩::rest) n L w:=by
 subst hn;refine tG (vs:=[.int .i64 b,.int .i64 t9,.slice E es.length c]) ht hx hy (by simp [Value.oneCell']) hb (by simp [lS];omega) fun w' o k=>kk w' o ?_
 have e:iY (rfV s a++R) 6 [.int .i64 b,.int .i64 t9,.slice E es.length c]=rfV { s with b:=b,t:=t9,es:=es } { a with E:=E,Ec:=c }++R:=rfl;rw [e] at k;exact k
theorem fB (hb:Blk w g T (rfV s a++R).toArray):w.rangeAt g 6 [.int .i64 s.b,.int .i64 s.t,.slice a.E s.es.length a.Ec]:=fun j v hv=>by
 match j,hv with
 |0,hv=>exact dO hb 6 hv
 |1,hv=>exact dO hb 7 hv
 |2,hv=>exact dO hb 8 hv
 |j+3,hv=>simp at hv
theorem my (hb:Blk w g T (rfV s a++R).toArray):w.rangeAt g 0 (rfV s a):=fun j v hv=>by rw [Nat.zero_add];exact dO hb j hv
theorem ot {dst:Option Nat} {post:Value→World→Prop} {base:Nat} {A A2:Option Addr} {m j cap c2 e size by_:Nat} {z:Value} {xs news:List Value} (hq:kn P t=some (e,size,by_,z)) (hzs:z.cells.size=size) (hs0:0<size)
 (hs:ev n L x=.slice A m cap) (hown:w.ownsRow base e size (.slice A m cap) m xs) (hB:base≤w.heap.size)
 (hx:ev n L y=.slice A2 j c2) (hl:news.length=j*size) (hsrc:∃ b o,A2=some ⟨b,o,none⟩∧w.rangeAt b o news) (h1:∀ u∈news,u.oneCell'=true) (h63:m+j≤9223372036854775807) (hby:(m+j)*by_≤140737488355328)
 (k:∀ A' cap' w',w'.ownsRow base e size (.slice A' (m+j) cap') (m+j) (xs++news)→w.grownBy w' (A.map (·.block))→(∀ q,A'.map (·.block)=some q→A.map (·.block)=some q∨w.heap.size≤q)→post (.slice A' (m+j) cap') w') :
 u_ P ops n L ⟨dst,.call { callee:=.builtin .append,args:=#[x,y],argTypes:=#[t,t] },ty,pos,after,none⟩ w post:=by
 obtain ⟨A',cap',w',hr,ho,hg,hl⟩:=nZ (P:=P) (ρ:=ev n L) hq hzs hs0 hs hown hB hx hl hsrc h1 h63 hby;refine ⟨rfl,.inl ⟨_,w',hr _ _ _ _ _,k A' cap' w' ho hg fun q hq=>?_⟩⟩;rcases hl with e | e
 ·exact .inl (e ▸ hq)
 ·rw [e] at hq;cases hq;exact .inr (Nat.le_refl _)
theorem Chg.only {U:Nat→Prop} {w w1 w2:World} {g:Nat} (h:Chg U w w1) (o:fc g w1 w2) (hg:U g):Chg U w w2:=h.next (o.toChg hg)
end
end Go.Proofs.YtkpooenofjdpmaaGreat
namespace Go.Proofs.YtkpooenofjdpmaaGreat
open Go.Proofs.Tryz (prog)
open Go.RowKit
open Go.ChangeShapes Go.WideShapes Go.ChangeAt
open Go.RowKit
theorem oy {s s':Rf} (hc:s.commit≤s'.commit) (hr:s.round≤s'.round) (hn:s'.nodes=s.nodes) {q:Rd} (h:fQ s q=true):fQ s' q=true:=by
 unfold fQ at h ⊢;simp only [Bool.and_eq_true] at h ⊢;obtain ⟨⟨⟨h1,h2⟩,h3⟩,h4⟩:=h;have h2':=dv h2;have h3':=dv h3;exact ⟨⟨⟨h1,ff (by omega)⟩,ff (by omega)⟩,by rw [hn];exact h4⟩
theorem RfF.elapse {s:Rf} (h:RfF s) {x:Int} (hx:0≤x∧x≤1099511627775):RfF { s with elapsed:=x }:={ h with el:=hx }
theorem RfF.beat {s:Rf} (h:RfF s) {x r:Int} (hx:0≤x∧x≤1099511627775) (hr:s.round≤r∧r≤1099511627775):RfF { s with elapsed:=x,round:=r }:=
 { h with el:=hx,rn:=by have h9:=h.rn;exact ⟨by show 0≤r;omega,hr.2⟩,rd:=fun q hq=>oy (s:=s) (s':={ s with elapsed:=x,round:=r }) (Int.le_refl _) hr.1 rfl (h.rd q hq) }
theorem z40:(0:Int)≤1099511627775:=by decide
theorem z11:(0:Int)≤1099511625728:=by decide
theorem z2:(0:Int)≤2:=by decide
theorem RfF.n0 {s:Rf} (h:RfF s):0≤s.nodes:=by have:=h.n;omega
theorem s5 (s:Int):-10<bl s 10∧bl s 10<10:=by
 rw [yI (by decide)];have h1:=Int.tmod_lt_of_pos (nx s) (show (0:Int)<10 by decide);have h2:=Int.lt_tmod_of_pos (nx s) (show (0:Int)<10 by decide);rw [IntWalk.wrap64_in _ (by omega)];omega
theorem RfF.draws {s:Rf} (h:RfF s):RfF (iy s):=by
 have:=s5 s.seed;exact { h with el:=⟨Int.le_refl _,z40⟩,ti:=⟨by show 0≤10+bl s.seed 10;omega,by show 10+bl s.seed 10≤_;omega⟩ }
theorem RfF.alone {s:Rf} (h:RfF s) {r l:Int} (hr:r=0∨r=1) (hl:0≤l∧l≤s.nodes):RfF { fw s with role:=r,leader:=l }:=by
 have h0:gn { fw s with role:=r,leader:=l }=0:=nH (by show r≠2;omega);exact { n:=h.n,i:=h.i,ro:=by (show 0≤r∧r≤2);omega,te:=h.te,vo:=h.vo,le:=hl,lg:=h.lg,sn:=h.sn,sb:=h.sb,el:=h.el,ti:=h.ti,rn:=h.rn,vs:=rfl,lt:=h.lt,co:=h.co,pa:=h.pa,po:=h.po,pp:=h.pp,nx:=⟨h0.symm,fun x hx=>by cases hx⟩,ma:=⟨h0.symm,fun x hx=>by cases hx⟩,se:=⟨h0.symm,fun x hx=>by cases hx⟩,rl:=by (show 0≤32);decide,r0:=.inr rfl,rd:=fun q hq=>by cases hq }
theorem RfF.termed {s:Rf} (h:RfF s) {tm:Int} (ht:s.term≤tm∧tm≤1099511627775) {v:Int} (hv:0≤v∧v≤s.nodes):RfF { s with term:=tm,vote:=v,part:=⟨#[]⟩,partOf:=0 }:=
 { h with te:=by have:=h.te;exact ⟨by show 0≤tm;omega,ht.2⟩,vo:=hv,lt:=by have:=h.lt;show dp s.t s.es≤tm;omega,pa:=by (show 0≤524288);decide,po:=⟨Int.le_refl _,z11⟩,pp:=.inr rfl }
theorem RfF.falls {s:Rf} (h:RfF s) {tm:Int} (ht:tm≤1099511627775):RfF (bC s tm):=by
 have h1:=h.alone (r:=0) (l:=0) (.inl rfl) ⟨Int.le_refl _,h.n0⟩;unfold bC;simp only;split
 ·rename_i h2;exact h1.termed (tm:=tm) (v:=0) ⟨by show s.term≤tm;omega,ht⟩ ⟨Int.le_refl _,h.n0⟩
 ·exact h1
theorem sG {n x:Int} (h:1≤x∧x≤n):fE [x] n=true:=by
 unfold fE;simp only [List.all_cons,List.all_nil,Bool.and_true,gv,Bool.and_eq_true,decide_eq_true_eq];exact h
def eh (s:Rf):Rf:=iy { fw s with term:=s.term+1,vote:=s.id,role:=1,leader:=0,votes:=[s.id],part:=⟨#[]⟩,partOf:=0 }
theorem RfF.cand {s:Rf} (h:RfF s) (ht:s.term≠eO):RfF (eh s):=by
 have h1:=h.alone (r:=1) (l:=0) (.inr rfl) ⟨Int.le_refl _,h.n0⟩;have hi:=h.i;have h2:=h1.termed (tm:=s.term+1) (v:=s.id) ⟨by show s.term≤s.term+1;omega,by have:=h.te;unfold eO at ht;omega⟩ ⟨by omega,hi.2⟩;exact RfF.draws { h2 with vs:=sG hi }
def eE (s:Rf):Rf:={ fw s with role:=2,leader:=s.id,elapsed:=0,next:=List.replicate s.nodes.toNat (bH s+1),mtch:=List.replicate s.nodes.toNat 0,sent:=List.replicate s.nodes.toNat 0 }
theorem RfF.last {s:Rf} (h:RfF s):bH s=s.b+s.es.length∧0≤s.b∧s.b≤bH s∧s.es.length≤512∧s.b≤1099511625728:=by
 obtain ⟨h1,h2,h3,h4⟩:=fT h.lg;have h5:bH s=s.b+s.es.length:=h1;exact ⟨h5,h2,by omega,h4,h3⟩
theorem RfF.chief {s:Rf} (h:RfF s):RfF (eE s):=by
 have hl:=h.last;have hn:=h.n;have h0:gn (eE s)=s.nodes.toNat:=jw rfl;exact { n:=h.n,i:=h.i,ro:=⟨z2,Int.le_refl _⟩,te:=h.te,vo:=h.vo,le:=⟨by have:=h.i;show 0≤s.id;omega,h.i.2⟩,lg:=h.lg,sn:=h.sn,sb:=h.sb,el:=⟨Int.le_refl _,z40⟩,ti:=h.ti,rn:=h.rn,vs:=rfl,lt:=h.lt,co:=h.co,pa:=h.pa,po:=h.po,pp:=h.pp,nx:=⟨by rw [h0];exact List.length_replicate,fun x hx=>by rw [List.eq_of_mem_replicate hx];exact ⟨by omega,Int.le_refl _⟩⟩,ma:=⟨by rw [h0];exact List.length_replicate,fun x hx=>by rw [List.eq_of_mem_replicate hx];exact ⟨Int.le_refl _,by show 0≤bH s;omega⟩⟩,se:=⟨by rw [h0];exact List.length_replicate,fun x hx=>by rw [List.eq_of_mem_replicate hx];exact ⟨Int.le_refl _,by omega⟩⟩,rl:=by (show 0≤32);decide,r0:=.inr rfl,rd:=fun q hq=>by cases hq }
theorem sN (T:Int) (xs:List Ent) (e:Ent):dp T (xs++[e])=e.t:=by unfold dp;simp
theorem RfF.added {s:Rf} (h:RfF s) (hf:il s=false) (d:ByteArray) (hd:d.size≤4096):RfF (fy s d)∧bH (fy s d)=bH s+1:=by
 obtain ⟨h1,h2,h3⟩:=h.add hf d hd;refine ⟨{ h with lg:=h1,lt:=by (show dp s.t (s.es++[_])≤s.term);rw [sN];exact Int.le_refl _,co:=⟨h.co.1,by rw [h2];have:=h.co.2;show s.commit≤bH s+1;omega⟩,nx:=⟨h.nx.1,fun x hx=>by rw [h2];have:=h.nx.2 x hx;omega⟩,ma:=⟨h.ma.1,fun x hx=>by rw [h2];have:=h.ma.2 x hx;omega⟩ },h2⟩
theorem fJ (l:List Int) (k v:Int):(eM l k v).length=l.length:=List.length_set
theorem vM {l:List Int} {k v x:Int} (h:x∈eM l k v):x∈l∨x=v:=List.mem_or_eq_of_mem_set h
theorem RfF.settle {s:Rf} (h:RfF s) (hr:s.role=2):RfF (dE s):=by
 have hl:=h.last;have hn:=h.n;have hm:(eM s.mtch s.id (bH s)).length=gn s:=by rw [fJ];exact h.ma.1
 have hall:∀ x∈eM s.mtch s.id (bH s),0≤x∧x≤bH s:=fun x hx=>by
  rcases vM hx with e | e
  ·exact h.ma.2 x e
  ·omega
 have hmed:=hall _ (tP (L:=eM s.mtch s.id (bH s)) (by rw [hm,jw hr];omega));have hc:=h.co
 have hcm:s.commit≤(dE s).commit∧(dE s).commit≤bH s:=by
  unfold dE;simp only;split <;> omega
 exact { h with co:=⟨by have:=hcm.1;show s.b≤(dE s).commit;omega,hcm.2⟩,ma:=⟨hm,hall⟩,rd:=fun q hq=>oy (s:=s) (s':=dE s) hcm.1 (Int.le_refl _) rfl (h.rd q hq) }
theorem RfF.lead {s:Rf} (h:RfF s) (hf:il s=false):RfF (fy (eE s) ⟨#[]⟩):=(h.chief.added hf ⟨#[]⟩ (by decide)).1
end Go.Proofs.YtkpooenofjdpmaaGreat
namespace Go.Proofs.YtkpooenofjdpmaaGreat
open Go.Proofs.Tryz (prog)
open Go.RowKit Go.Shelf
attribute [local go_sem] Oper.semAt_some
theorem wy:(prog.info? 3).map (fun i=>(i.zero,i.size,i.bytes))=some (some (.int .i64 0),1,8):=by kernel_rfl
def nth (L:List Int) (k:Nat):Int:=L[k]?.getD 0
theorem qT {L:List Int} {k:Nat} (h:k<L.length):L.take (k+1)=L.take k++[nth L k]:=by
 unfold nth;rw [List.take_add_one,List.getElem?_eq_getElem h];rfl
theorem yh (n l Bs n₀ b off cap:Nat) (L:List Int) (hn:1≤n) (hL:L.length*8≤140737488351232) (hb:b<n₀) (J Jx:List Int→World→Prop)
 (hY:∀ pre x W,J pre W→pre.length<L.length→YieldAt Fence.wide (n-1) prog l #[.int .i64 x] W fun e W'=>(e=.returned (.bool true)∧J (pre++[x]) W'∧Below n₀ W W')∨(e=.returned (.bool false)∧Jx (pre++[x]) W'))
 (W:World) (hBs:W.cell? ⟨Bs,0,none⟩=some (.slice (some ⟨b,off,none⟩) L.length cap)) (hc:∀ j,j<L.length→W.cell? ⟨b,off+j,none⟩=some (.int .i64 (nth L j))) (h0:J [] W) :
 CallsIn Fence.wide n prog 170 #[.func (.yield l) #[] #[],.pointer (some ⟨Bs,0,none⟩)] W fun e W'=>(∃ v,e=.returned v)∧((∃ ys,ys=L∧J ys W')∨(∃ pre,pre <+: L∧Jx pre W')):=by
 refine callsIn_of_wp Tryz.func170 rfl trivial ?_ rfl;simp only [Tryz.ntmps170,List.size_toArray,List.length_cons,List.length_nil,Nat.reduceAdd,Nat.reduceSub,Array.replicate_succ,Array.replicate_zero,List.push_toArray,List.append_toArray,List.nil_append,List.cons_append]
 gi_wp2
 gi_loopw [7] (fun i wr=>∃ k:Nat,k≤L.length∧i=.int .i64 k∧J (L.take k) wr∧Below n₀ W wr) (fun i _=>L.length-(intOf i).toNat)
 case atStart=>exact ⟨0,Nat.zero_le _,rfl,by simpa using h0,Below.refl _ _⟩
 case round=>
  obtain ⟨k,hk,rfl,hJ,hB⟩:=hrel;by_cases hlt:k<L.length
  ·obtain ⟨fn,tmps,assign,body,hy,hR⟩:=hY _ (nth L k) wr hJ (by rw [List.length_take];omega);have hck:wr.cell? ⟨b,off+k,none⟩=some (.int .i64 (nth L k)):=(hB.cell (p:=⟨b,off+k,none⟩) hb).trans (hc k hlt)
   gi_wp2
   refine hR.mono ?_;rintro e W3 (⟨rfl,hJ3,hk3⟩ | ⟨rfl,hJx3⟩)
   ·gi_wp2
    go_roundw
    case rel=>exact ⟨k+1,by omega,by simp,by rw [qT hlt];exact hJ3,hB.trans hk3⟩
    case measure=>simp [intOf];omega
   ·gi_wp2
    refine bodyPost_ret (results_none rfl _ _ _) rfl ?_;exact ⟨⟨_,rfl⟩,.inr ⟨_,by rw [←qT hlt];exact List.take_prefix _ _,hJx3⟩⟩
  ·obtain rfl:k=L.length:=by omega
   gi_wp2
   go_end0
   exact ⟨⟨_,rfl⟩,.inl ⟨_,rfl,by rw [List.take_length] at hJ;exact hJ⟩⟩
theorem sV (n Bs n₀ b off cap:Nat) (L:List Int) (hn:1≤n) (hL:L.length*8≤140737488351232) (hb:b<n₀) (w:World) (hBs:Bs<w.heap.size) (hn₀:n₀≤w.heap.size)
 (hs:w.cell? ⟨Bs,0,none⟩=some (.slice (some ⟨b,off,none⟩) L.length cap)) (hc:∀ j,j<L.length→w.cell? ⟨b,off+j,none⟩=some (.int .i64 (nth L j))) :
 SeqStopsK Fence.wide n prog 170 #[.pointer (some ⟨Bs,0,none⟩)] (fun x:Int=>#[Value.int .i64 x]) (Below n₀) (fun ys=>ys=L) (fun pre=>pre <+: L) L.length w:=fun l J Jx W hW _ _ hY h0=>
 yh n l Bs n₀ b off cap L hn hL hb J Jx hY W ((hW.cell (p:=⟨Bs,0,none⟩) hBs).trans hs) (fun j hj=>(hW.cell (p:=⟨b,off+j,none⟩) (show b<_ by omega)).trans (hc j hj)) h0
theorem qv (n Bs b off cap:Nat) (L:List Int) (hn:3≤n) (hL:L.length*8≤140737488351232) (w:World) (hb:b<w.heap.size) (hBs:Bs<w.heap.size)
 (hs:w.cell? ⟨Bs,0,none⟩=some (.slice (some ⟨b,off,none⟩) L.length cap)) (hc:∀ j,j<L.length→w.cell? ⟨b,off+j,none⟩=some (.int .i64 (nth L j))) :
 CallsIn Fence.wide n prog 179 #[.slice none 0 0,.func (.func 170) #[] #[.pointer (some ⟨Bs,0,none⟩)]] w fun e W'=>
  ∃ v,e=.returned v∧W'.ownsRow w.heap.size 3 1 v L.length (L.map (Value.int .i64))∧Below w.heap.size w W':=by
 have h1:1≤n:=by omega
 obtain ⟨i0,hi,hz0,hz1,hz2⟩:=info_parts wy;refine callsIn_of_wp_marks Tryz.func179 rfl trivial ?_ rfl;simp only [Tryz.ntmps179,List.size_toArray,List.length_cons,List.length_nil,Nat.reduceAdd,Nat.reduceSub,Array.replicate_succ,Array.replicate_zero,List.push_toArray,List.append_toArray,List.nil_append,List.cons_append]
 gi_wp2
 have bO:=Boxed.new w 26 (.slice none 0 0);have hB0:Below w.heap.size w (w.alloc (.cells #[.slice none 0 0] 26)):=(Below.refl _ w).alloc (Nat.le_refl _) _
 refine wpIn_rangeFunc_ownG rfl h1 (gf:=170) (lb:=#[.pointer (some ⟨Bs,0,none⟩)]) rfl trivial (enters_of Tryz.func170 (by kernel_rfl) rfl)
  (sV (n-1) Bs w.heap.size b off cap L (by omega) hL hb _ (by simp;omega) (by simp) ((hB0.cell (p:=⟨Bs,0,none⟩) hBs).trans hs) (fun j hj=>(hB0.cell (p:=⟨b,off+j,none⟩) hb).trans (hc j hj))) belowK_t (belowK_b (by simp)) (Below.refl _ _) (fun _=>rfl)
  (fun pre W=>(∃ v,Boxed W w.heap.size 26 v∧W.ownsRow w.heap.size 3 1 v pre.length (pre.map (Value.int .i64))∧True)∧Below w.heap.size w W)
  (fun _ _ _=>False)
  (OwnFrom.and (Own.from (holdsRow_own w.heap.size w.heap.size 26 3 1 (fun pre:List Int=>pre.length) (fun pre=>pre.map (Value.int .i64)) (fun _ _=>True)) _) (ownFrom_below (Nat.le_refl _) (by simp)))
  (fun _ _ _ _ _ hs _ _=>hs)
  ⟨⟨_,bO,World.ownsRow_nil _ _ _ _,trivial⟩,hB0⟩
  (fun x=>{ tmps:=#[.slice none 0 0,.func (.func 170) #[] #[.pointer (some ⟨Bs,0,none⟩)],.pointer (some ⟨w.heap.size,0,none⟩),undef,.slice none 0 0,.int .i64 x,.func (.func 170) #[] #[.pointer (some ⟨Bs,0,none⟩)],.int .i64 x,undef,undef,undef,undef,undef],defers:=[] }) ?assign ?body ?done ?stop
 case assign=>
  intro l x W K hK
  gi_wp2
  exact hK
 case body=>
  rintro l pre x W ⟨⟨v,hv,hrow,_⟩,hB⟩ hlt;have hc:=hv.cell
  gi_wp2_with (gi_at_builtin;refine wpListIn_append_own _ rfl _ _ 26 rfl w.heap.size 3 i0 (.int .i64 0) 1 8 Tryz.underlying26 hi hz0 hz1 hz2 rfl (by decide) _ _ _ rfl (hrow.alloc _) ⟨W.heap.size,0,none⟩ 1 1 [.int .i64 x] rfl rfl (cell_one_new _ _ _) (by simp [Value.oneCell']) (by unfold maxLen;omega) (by omega) (by have:=hB.size;simp;omega) ?_;intro v' w1 hown' hgrow _;obtain ⟨g',cap',rfl⟩:=ownsRow_succ hown';obtain ⟨hv1,hv2,hr2,hk2,hb2⟩:=hv.appended (by decide) hrow hB.size (Nat.le_refl _) hown' hgrow;have hc1:=hv1.cell;have hf1:=hv1.frozen)
  exact ⟨hk2.from _,hb2,⟨_,hv2,by simpa using hr2,trivial⟩,hB.trans hb2⟩
 case done=>
  rintro D ys W hD rfl ⟨⟨v,hv,hrow,_⟩,hB⟩ hK;have hc:=hv.cell
  gi_wp2
  refine ⟨by simp,.inl ⟨_,_,rfl,run_takeDeferred hK,?_⟩⟩;exact ⟨_,results_tmp rfl _ _ _,v,rfl,ownsRow_putObj hrow _ hK rfl,hB.trans (belowK_b (w:=w) (Nat.le_refl _) W D _ _ (by simp at hD;omega) hK rfl rfl)⟩
 case stop=>
  rintro D c pre W _ _ h _;exact h.elim
theorem qu (Bs b off cap:Nat) (L:List Int) (w:World) (hL:L.length≤1000000) (hb:b<w.heap.size) (hBs:Bs<w.heap.size)
 (hs:w.cell? ⟨Bs,0,none⟩=some (.slice (some ⟨b,off,none⟩) L.length cap)) (hc:∀ j (h:j<L.length),w.cell? ⟨b,off+j,none⟩=some (.int .i64 L[j])) :
 Rt prog 179 [.slice none 0 0,.func (.func 170) #[] #[.pointer (some ⟨Bs,0,none⟩)]] w fun v w'=>
  (∃ A c,v=.slice A L.length c∧w'.ownsRow w.heap.size 3 1 (.slice A L.length c) L.length (L.map iV))∧ai w w':=by
 refine Calls.mono (callsIn_wide.1 (qv 3 Bs b off cap L (Nat.le_refl _) (by omega) w hb hBs hs (fun j hj=>by unfold nth;rw [List.getElem?_eq_getElem hj];exact hc j hj))) fun e w' ⟨v,he,ho,hB⟩=>?_
 obtain ⟨A,c,rfl⟩:=fL ho;exact ⟨_,he,⟨A,c,rfl,ho⟩,hB⟩
end Go.Proofs.YtkpooenofjdpmaaGreat
