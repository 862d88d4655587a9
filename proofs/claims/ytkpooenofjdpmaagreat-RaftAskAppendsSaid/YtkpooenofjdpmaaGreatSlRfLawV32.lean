/- texts that the claim stands on. -/
import Derived.Test.YtkpooenofjdpmaaGreatSlRfLawV31
import Derived.Laws.CopyRow
import Derived.Lib.LazyBuf
import Derived.Lib.AppendZerosOnto
import Derived.Lib.Overlaps
import Derived.Deep.AppendLies
set_option maxRecDepth 100000
set_option maxHeartbeats 4000000
namespace Go.Proofs.YtkpooenofjdpmaaGreat
open Go.Proofs.Tryz (prog)
open Go.RowKit
theorem bU:ib prog 22=some (99,3):=by kernel_rfl
theorem eD:kB prog 24=some (.agg #[.int .i64 0,.int .i64 0,.slice none 0 0]):=by kernel_rfl
theorem aY:jG prog 24=some true:=by kernel_rfl
theorem aL:ef prog 24=some 3:=by kernel_rfl
theorem lS:aN prog 116=true:=by kernel_rfl
theorem eX:prog.built 24 []=some #[.int .i64 0,.int .i64 0,.slice none 0 0]:=by kernel_rfl
theorem cj:kD prog 26=some (3,1,8,(.int .i64 0)):=by kernel_rfl
theorem lR:aN prog 118=true:=by kernel_rfl
theorem p_:aN prog 153=true:=by kernel_rfl
theorem ct:cD prog 24 0=some 0:=by kernel_rfl
theorem ao:jG prog 3=some false:=by kernel_rfl
theorem bC:(ib prog 22).isSome=true:=by kernel_rfl
theorem gY:cD prog 24 1=some 1:=by kernel_rfl
theorem qa:aN prog 117=true:=by kernel_rfl
theorem jV:aN prog 154=true:=by kernel_rfl
theorem lQ:aN prog 119=true:=by kernel_rfl
theorem eg:cD prog 99 0=some 0:=by kernel_rfl
theorem dC:cD prog 99 1=some 1:=by kernel_rfl
def er (B p:Int) (es:List Ent):List Ent:=if p<B then es.drop (min (B-p) es.length).toNat else es
def mgP (B p:Int):Int:=if p<B then B else p
def mgQ (B T p q:Int):Int:=if p<B then T else q
def dz (B T:Int) (xs:List Ent):List Ent→List Ent
 |[]=>[]
 |e::r=>if e.i≤B+xs.length∧dw B T xs e.i=e.t then dz B T xs r else e::r
def nP (B:Int) (xs:List Ent):List Ent→Nat | []=>xs.length | e::_=>(e.i-1-B).toNat
def mg2 (B T:Int) (xs ys:List Ent):Int×Bool×List Ent:=
 if 512<nP B xs ys+ys.length then (6,false,[]) else if bR B T (xs.take (nP B xs ys)++ys)=true then (0,false,xs.take (nP B xs ys)++ys) else (1,false,[])
def dL (B T p q:Int) (xs es:List Ent):Int×Bool×List Ent:=
 if bR B T xs=true∧inb 0 1099511627776 p=true∧inb 0 1099511627775 q=true∧dm es p q=true then
  if B+xs.length<mgP B p∨¬ dw B T xs (mgP B p)=mgQ B T p q then (0,true,xs) else mg2 B T xs (dz B T xs (er B p es))
 else (1,false,[])
def yw (w w':World) (B T:Int) (r:Int×Bool×List Ent) (v:Value):Prop:=
 ∃ (X Y:Int) (A:Option Addr) (m c:Nat),v=.tuple #[.agg #[.int .i64 X,.int .i64 Y,.slice A m c],.bool r.2.1,.int .i64 r.1]∧
  (r.1≠0→X=0∧Y=0∧A=none∧m=0∧c=0)∧(r.1=0→X=B∧Y=T∧m=r.2.2.length∧w'.ownsRow w.heap.size 99 3 (.slice A m c) m (cN r.2.2))
theorem nm {w w':World} {B T:Int} {r:Int×Bool×List Ent} {c:Int} {b:Bool} (h:r=(c,b,[])) (hc:c≠0):yw w w' B T r (.tuple #[.agg #[.int .i64 0,.int .i64 0,.slice none 0 0],.bool b,.int .i64 c]):=by
 subst h;exact ⟨0,0,none,0,0,rfl,fun _=>⟨rfl,rfl,rfl,rfl,rfl⟩,fun h=>absurd h hc⟩
theorem qV {w w':World} {B T:Int} {r:Int×Bool×List Ent} {b:Bool} {ys:List Ent} {A:Option Addr} {m c:Nat} (h:r=(0,b,ys)) (hm:m=ys.length) (ho:w'.ownsRow w.heap.size 99 3 (.slice A m c) m (cN ys)):yw w w' B T r (.tuple #[.agg #[.int .i64 B,.int .i64 T,.slice A m c],.bool b,.int .i64 0]):=by
 subst h;exact ⟨B,T,A,m,c,rfl,fun h=>absurd rfl h,fun _=>⟨rfl,rfl,hm,ho⟩⟩
theorem nr (B T i:Int) (k:Nat) (A A':Option Addr) (n c m d:Nat) (xs ys:List Ent) (w:World) (h:bX w (.slice A n c) xs) (hu:bX w (.slice A' m d) ys) (hB0:0≤B) (hB1:B≤4611686018427387904) (hi:i=B+k) (hk:k≤xs.length) (hx:xs.length≤400000000000) (hy:ys.length≤400000000000) :
 Rt prog 154 [.agg #[.int .i64 B,.int .i64 T,.slice A n c],.int .i64 i,.slice A' m d] w fun v w'=>∃ A2 c2,v=.agg #[.int .i64 B,.int .i64 T,.slice A2 (k+ys.length) c2]∧w'.ownsRow w.heap.size 99 3 (.slice A2 (k+ys.length) c2) (k+ys.length) (cN (xs.take k++ys))∧ah w w':=by
 subst hi;exact Calls.mono (pk B T k _ _ xs ys w h hu hB0 hB1 hk hx hy) fun e w' ⟨v',he,ho,hF⟩=>⟨_,he,by obtain ⟨A2,c2,rfl⟩:=fk ho;exact ⟨A2,c2,rfl,ho,hF⟩⟩
theorem xc {w:World} {b o:Nat} {x y z:Value} (h0:w.cell? ⟨b,o,none⟩=some x) (h1:w.cell? ⟨b,o+1,none⟩=some y) (h2:w.cell? ⟨b,o+2,none⟩=some z):w.rangeAt b o [x,y,z]:=fun j v hv=>by
 match j,hv with
 |0,hv=>cases hv;exact h0
 |1,hv=>cases hv;exact h1
 |2,hv=>cases hv;exact h2
theorem bX.head {w:World} {A:Option Addr} {n c:Nat} {e:Ent} {r:List Ent} (h:bX w (.slice A n c) (e::r)):∃ b o,A=some ⟨b,o,none⟩∧w.rangeAt b o [.int .i64 e.i,.int .i64 e.t,.string e.d]:=by
 obtain ⟨A',c',hv,_,_,_,hp⟩:=h;simp only [Value.slice.injEq] at hv;obtain ⟨rfl,_,_⟩:=hv;obtain ⟨b,o,hA,_,hc⟩:=hp (by simp);have:=hc 0 (by simp);simp only [Nat.zero_mul,Nat.add_zero,List.getElem_cons_zero] at this;exact ⟨b,o,hA,xc this.1 this.2.1 this.2.2⟩
theorem bX.len {w:World} {A:Option Addr} {n c:Nat} {xs:List Ent} (h:bX w (.slice A n c) xs):n=xs.length∧xs.length≤c:=by
 obtain ⟨A',c',hv,h1,_⟩:=h;simp only [Value.slice.injEq] at hv;obtain ⟨_,rfl,rfl⟩:=hv;exact ⟨rfl,h1⟩
theorem mw {B p q:Int} {es:List Ent} (_:0≤B) (h:dm es p q=true) (hq:inb 0 1099511627775 q=true):∃ t,dm (er B p es) (mgP B p) t=true:=by
 unfold er mgP;split
 ·rename_i hp;by_cases hl:B-p≤es.length
  ·have:=(qk es (B-p).toNat p q (by omega) h hq).1;rw [show p+(((B-p).toNat:Nat):Int)=B by omega] at this;rw [show min (B-p) (es.length:Int)=B-p by omega];exact ⟨_,this⟩
  ·rw [show (min (B-p) (es.length:Int)).toNat=es.length by omega,List.drop_length];exact ⟨0,rfl⟩
 ·exact ⟨q,h⟩
theorem et {e:Ent} {r:List Ent} {p t:Int} (h:dm (e::r) p t=true):e.i=p+1∧dm r (p+1) e.t=true:=by
 simp only [dm,fL,Bool.and_eq_true,decide_eq_true_eq] at h;exact ⟨h.1.1.1.1,h.2⟩
theorem vH (B T:Int) (A:Option Addr) (n c:Nat) (xs:List Ent) (w:World) (h:bX w (.slice A n c) xs) (hl:dy B xs=B+xs.length) :
 Rt prog 117 [.agg #[.int .i64 B,.int .i64 T,.slice A n c]] w fun v w'=>v=.tuple #[.int .i64 (B+xs.length),.int .i64 (di T xs)]∧ah w w':=
 Rt.mono (Rt.of (js B T _ xs w h)) fun v w' h=>⟨by rw [h.1,hl],h.2⟩
theorem gj {B T:Int} {xs:List Ent} {e:Ent} {r:List Ent} (h:¬ (e.i≤B+xs.length∧dw B T xs e.i=e.t)):dz B T xs (e::r)=e::r:=by
 unfold dz;rw [if_neg h]
theorem lB {B T:Int} {xs:List Ent} {e:Ent} {r:List Ent} (h:e.i≤B+xs.length∧dw B T xs e.i=e.t):dz B T xs (e::r)=dz B T xs r:=by
 rw [dz,if_pos h]
theorem sj (B T p q : Int) (A U : Option Addr) (cA cU : Nat) (xs es : List Ent) (w : World) (h : bX w (.slice A xs.length cA) xs) (he : bX w (.slice U es.length cU) es) (hel : es.length ≤ 400000000000) :
    Rt prog 162 [.agg #[.int .i64 B, .int .i64 T, .slice A xs.length cA], .int .i64 p, .int .i64 q, .slice U es.length cU] w (fun v w' => yw w w' B T (dL B T p q xs es) v ∧ ah w w') := by
  refine enter (n := 123) Tryz.func162 rfl rfl rfl ?_
  refine ak (af ?_)
  refine bZ (v := .agg _) rfl ?_
  intro b4 w1 E4 hb4 hk4
  have hl4 := hk4.lt
  refine bQ eD ?_
  intro b8 w2 E8 hb8 hk8
  replace hk4 := hk4.from_ E8
  have hg8 : w.heap.size ≤ b8 := by rw [hb8]; exact E4.size
  have h48 : b4 < b8 := by omega
  refine asb rfl ?_
  refine asi rfl ?_
  refine ai (ag (ak (ak (af ?_))))
  refine aa (aD (cs := [_, _, _]) aY aL rfl (by first | (first | exact (hk4.from_ ah.rfl_).whole | exact (hk4.from_ ah.rfl_).rd 0 rfl | exact (hk4.from_ ah.rfl_).rd 1 rfl | exact (hk4.from_ ah.rfl_).rd 2 rfl))) ?_
  refine az lS (Rt.of (ja B T _ xs _ (h.from_ ((ah.rfl_.next E4).next E8)))) ?_
  rintro v14 w3 ⟨rfl, E14⟩
  refine aa (dp rfl rfl) ?_
  refine mvb rfl ?_
  refine aJ (t := 16) rfl (fun Q4 => ?_) (fun Q4 => ?_)
  · replace Q4 := dF Q4; replace Q4 := en Q4
    have hbad : ¬ (bR B T xs = true ∧ inb 0 1099511627776 p = true ∧ inb 0 1099511627775 q = true ∧ dm es p q = true) := fun h0 => Q4 (by unfold chk; rw [if_pos h0.1])
    refine an rfl rfl ?_
    refine an rfl rfl ?_
    refine an rfl rfl ?_
    refine an rfl rfl ?_
    refine aa (aG (v := .bool _) rfl rfl) ?_
    refine mvb rfl ?_
    refine an rfl rfl ?_
    refine an rfl rfl ?_
    refine an rfl rfl ?_
    refine an rfl rfl ?_
    refine aa (aG (v := .bool _) rfl rfl) ?_
    refine mvb rfl ?_
    refine an rfl rfl ?_
    refine an rfl rfl ?_
    refine an rfl rfl ?_
    refine an rfl rfl ?_
    refine an rfl rfl ?_
    refine aa (aG (v := .bool _) rfl rfl) ?_
    refine ai (ag ?_)
    refine aR rfl ?_
    refine ak (af ?_)
    refine aa (cy (l := []) (eX)) ?_
    refine bK (vs := [_, _, _]) aL rfl rfl (by simp [Value.oneCell']) (hk8.from_ (ah.rfl_.next E14)) rfl ?_
    intro w5 O2 P2
    refine asb rfl ?_
    refine asi rfl ?_
    refine ai (ag (aC (aE ?_)))
    refine jZ rfl (cL (cs := [_, _, _]) aY aL rfl (by first | exact P2.whole | exact P8.whole | exact P14.whole | exact P17.whole | exact P18.whole)) (da (v := .bool _) rfl) (da (v := .int _ _) rfl) ?_
    exact ⟨nm (by unfold dL; rw [if_neg hbad]) (by decide), ((((ah.rfl_.next E4).next E8).next E14).only O2 (hg8))⟩
  replace Q4 := dG Q4; replace Q4 := ek Q4
  have hm : bR B T xs = true := by
    cases hm : bR B T xs with
    | true => rfl
    | false => unfold chk at Q4; rw [hm] at Q4; cases Q4
  obtain ⟨hl, hB0, hB1, hx⟩ := dZ hm
  refine ae rfl ?_
  refine mvi rfl ?_
  refine ae rfl ?_
  refine fq (v := .int _ _) cj rfl rfl rfl ?_
  intro b18 w6 E18 hb18 hk18
  refine ae rfl ?_
  refine az lR (qd _ _ _ _ _ hk18) ?_
  rintro v19 w7 ⟨rfl, E19⟩
  refine ae rfl ?_
  refine aa (cn rfl) ?_
  refine aa (av (v := .bool _) rfl rfl) ?_
  refine mvb rfl ?_
  refine aJ (t := 22) rfl (fun Q8 => ?_) (fun Q8 => ?_)
  · replace Q8 := dF Q8
    have hbad : ¬ (bR B T xs = true ∧ inb 0 1099511627776 p = true ∧ inb 0 1099511627775 q = true ∧ dm es p q = true) := fun h0 => by rw [h0.2.1] at Q8; cases Q8
    refine an rfl rfl ?_
    refine an rfl rfl ?_
    refine an rfl rfl ?_
    refine an rfl rfl ?_
    refine aa (aG (v := .bool _) rfl rfl) ?_
    refine mvb rfl ?_
    refine an rfl rfl ?_
    refine an rfl rfl ?_
    refine an rfl rfl ?_
    refine an rfl rfl ?_
    refine an rfl rfl ?_
    refine aa (aG (v := .bool _) rfl rfl) ?_
    refine ai (ag ?_)
    refine aR rfl ?_
    refine ak (af ?_)
    refine aa (cy (l := []) (eX)) ?_
    refine bK (vs := [_, _, _]) aL rfl rfl (by simp [Value.oneCell']) (hk8.from_ (((ah.rfl_.next E14).next E18).next E19)) rfl ?_
    intro w9 O2 P2
    refine asb rfl ?_
    refine asi rfl ?_
    refine ai (ag (aC (aE ?_)))
    refine jZ rfl (cL (cs := [_, _, _]) aY aL rfl (by first | exact P2.whole | exact P8.whole | exact P14.whole | exact P17.whole | exact P18.whole)) (da (v := .bool _) rfl) (da (v := .int _ _) rfl) ?_
    exact ⟨nm (by unfold dL; rw [if_neg hbad]) (by decide), ((((((ah.rfl_.next E4).next E8).next E14).next E18).next E19).only O2 (hg8))⟩
  replace Q8 := dG Q8
  have hPv := Q8
  have hpb := dk Q8
  refine ae rfl ?_
  refine mvi rfl ?_
  refine ae rfl ?_
  refine fq (v := .int _ _) cj rfl rfl rfl ?_
  intro b24 w10 E24 hb24 hk24
  refine ae rfl ?_
  refine az lR (qd _ _ _ _ _ hk24) ?_
  rintro v25 w11 ⟨rfl, E25⟩
  refine ae rfl ?_
  refine aa (cn rfl) ?_
  refine aa (av (v := .bool _) rfl rfl) ?_
  refine mvb rfl ?_
  refine aJ (t := 28) rfl (fun Q12 => ?_) (fun Q12 => ?_)
  · replace Q12 := dF Q12
    have hbad : ¬ (bR B T xs = true ∧ inb 0 1099511627776 p = true ∧ inb 0 1099511627775 q = true ∧ dm es p q = true) := fun h0 => by rw [h0.2.2.1] at Q12; cases Q12
    refine an rfl rfl ?_
    refine an rfl rfl ?_
    refine an rfl rfl ?_
    refine an rfl rfl ?_
    refine an rfl rfl ?_
    refine aa (aG (v := .bool _) rfl rfl) ?_
    refine ai (ag ?_)
    refine aR rfl ?_
    refine ak (af ?_)
    refine aa (cy (l := []) (eX)) ?_
    refine bK (vs := [_, _, _]) aL rfl rfl (by simp [Value.oneCell']) (hk8.from_ (((((ah.rfl_.next E14).next E18).next E19).next E24).next E25)) rfl ?_
    intro w13 O2 P2
    refine asb rfl ?_
    refine asi rfl ?_
    refine ai (ag (aC (aE ?_)))
    refine jZ rfl (cL (cs := [_, _, _]) aY aL rfl (by first | exact P2.whole | exact P8.whole | exact P14.whole | exact P17.whole | exact P18.whole)) (da (v := .bool _) rfl) (da (v := .int _ _) rfl) ?_
    exact ⟨nm (by unfold dL; rw [if_neg hbad]) (by decide), ((((((((ah.rfl_.next E4).next E8).next E14).next E18).next E19).next E24).next E25).only O2 (hg8))⟩
  replace Q12 := dG Q12
  have hQv := Q12
  have hqb := dk Q12
  refine ae rfl ?_
  refine mvi rfl ?_
  refine ae rfl ?_
  refine mvi rfl ?_
  refine ae rfl ?_
  refine mvs rfl ?_
  refine ae rfl ?_
  refine az p_ (Rt.of (ks p q _ es _ (he.from_ (((((((ah.rfl_.next E4).next E8).next E14).next E18).next E19).next E24).next E25)) (by omega) (by omega) (by omega) (by omega))) ?_
  rintro v32 w14 ⟨rfl, E32⟩
  refine ae rfl ?_
  refine aa (cn rfl) ?_
  refine aa (av (v := .bool _) rfl rfl) ?_
  refine ai (ag ?_)
  refine aQ rfl (fun Q15 => ?_) (fun Q15 => ?_)
  · replace Q15 := dF Q15
    have hbad : ¬ (bR B T xs = true ∧ inb 0 1099511627776 p = true ∧ inb 0 1099511627775 q = true ∧ dm es p q = true) := fun h0 => by rw [h0.2.2.2] at Q15; cases Q15
    refine ak (af ?_)
    refine aa (cy (l := []) (eX)) ?_
    refine bK (vs := [_, _, _]) aL rfl rfl (by simp [Value.oneCell']) (hk8.from_ ((((((ah.rfl_.next E14).next E18).next E19).next E24).next E25).next E32)) rfl ?_
    intro w16 O2 P2
    refine asb rfl ?_
    refine asi rfl ?_
    refine ai (ag (aC (aE ?_)))
    refine jZ rfl (cL (cs := [_, _, _]) aY aL rfl (by first | exact P2.whole | exact P8.whole | exact P14.whole | exact P17.whole | exact P18.whole)) (da (v := .bool _) rfl) (da (v := .int _ _) rfl) ?_
    exact ⟨nm (by unfold dL; rw [if_neg hbad]) (by decide), (((((((((ah.rfl_.next E4).next E8).next E14).next E18).next E19).next E24).next E25).next E32).only O2 (hg8))⟩
  replace Q15 := dG Q15
  have hR := Q15
  refine aM (ag ?_)
  refine fY (G := Int × Int × List Ent × Option Addr × Nat × Nat) [36, 37, 38, 39, 40, 41, 42, 43, 44, 45, 46, 47, 48, 49, 50, 51, 52] (fun (P, Q, ys, A3, n3, c3) => [(1, .int .i64 P), (2, .int .i64 Q), (3, .slice A3 n3 c3)]) (fun (P, Q, ys, A3, n3, c3) w' => P = mgP B p ∧ Q = mgQ B T p q ∧ ys = er B p es ∧ n3 = ys.length ∧ bX w' (.slice A3 n3 c3) ys ∧ Blk w' b4 24 #[.int .i64 B, .int .i64 T, .slice A xs.length cA] ∧ Blk w' b8 24 #[.int .i64 0, .int .i64 0, .slice none 0 0] ∧ ah w w') ?_ ?_
  · refine ak (af ?_)
    refine mvi rfl ?_
    refine aa (ab ct rfl) ?_
    refine aa (ar ao rfl (by first | (first | exact (hk4.from_ ((((((ah.rfl_.next E14).next E18).next E19).next E24).next E25).next E32)).whole | exact (hk4.from_ ((((((ah.rfl_.next E14).next E18).next E19).next E24).next E25).next E32)).rd 0 rfl | exact (hk4.from_ ((((((ah.rfl_.next E14).next E18).next E19).next E24).next E25).next E32)).rd 1 rfl | exact (hk4.from_ ((((((ah.rfl_.next E14).next E18).next E19).next E24).next E25).next E32)).rd 2 rfl))) ?_
    refine aa (cg rfl rfl) ?_
    refine ai (ag ?_)
    refine aQ rfl (fun Q17 => ?_) (fun Q17 => ?_)
    · replace Q17 := dT_ Q17
      have hlt := Q17
      refine ak (af ?_)
      refine mvs rfl ?_
      refine aa (ab ct rfl) ?_
      refine aa (ar ao rfl (by first | (first | exact (hk4.from_ ((((((ah.rfl_.next E14).next E18).next E19).next E24).next E25).next E32)).whole | exact (hk4.from_ ((((((ah.rfl_.next E14).next E18).next E19).next E24).next E25).next E32)).rd 0 rfl | exact (hk4.from_ ((((((ah.rfl_.next E14).next E18).next E19).next E24).next E25).next E32)).rd 1 rfl | exact (hk4.from_ ((((((ah.rfl_.next E14).next E18).next E19).next E24).next E25).next E32)).rd 2 rfl))) ?_
      refine mvi rfl ?_
      refine aa (dM rfl rfl (by omega)) ?_
      refine mvs rfl ?_
      refine aa (bF bC rfl) ?_
      refine aa (gA rfl rfl) ?_
      refine aa (iZ (l := (min (B - p) es.length).toNat) bU rfl (.inr ⟨_, _, _, rfl, rfl, (by omega)⟩) (.inl ⟨rfl, rfl⟩) (by omega) (by have := he.len; omega)) ?_
      refine ass rfl ?_
      refine ai (ag ?_)
      apply k7 6 [(49, eqp _), (50, eqp _), (51, eqp _), (52, eqp _), (1, eqp _), (2, eqp _)] (by kernel_rfl) (by kernel_rfl) ⟨aj _, aj _, aj _, aj _, aj _, aj _, trivial⟩
      case hop =>
       refine ⟨?_, ?_⟩
       · intro w19 D19
         show ay ..
         exact au (ab ct rfl) rfl
       refine ⟨?_, ?_⟩
       · intro w20 D20
         rintro _ rfl
         show ay ..
         exact au (ar ao rfl (by first | (first | exact (hk4.from_ (((((((ah.rfl_.next E14).next E18).next E19).next E24).next E25).next E32).next D20)).whole | exact (hk4.from_ (((((((ah.rfl_.next E14).next E18).next E19).next E24).next E25).next E32).next D20)).rd 0 rfl | exact (hk4.from_ (((((((ah.rfl_.next E14).next E18).next E19).next E24).next E25).next E32).next D20)).rd 1 rfl | exact (hk4.from_ (((((((ah.rfl_.next E14).next E18).next E19).next E24).next E25).next E32).next D20)).rd 2 rfl))) rfl
       refine ⟨?_, ?_⟩
       · intro w21 D21
         show ay ..
         exact au (ab gY rfl) rfl
       refine ⟨?_, ?_⟩
       · intro w22 D22
         rintro _ rfl
         show ay ..
         exact au (ar ao rfl (by first | (first | exact (hk4.from_ (((((((ah.rfl_.next E14).next E18).next E19).next E24).next E25).next E32).next D22)).whole | exact (hk4.from_ (((((((ah.rfl_.next E14).next E18).next E19).next E24).next E25).next E32).next D22)).rd 0 rfl | exact (hk4.from_ (((((((ah.rfl_.next E14).next E18).next E19).next E24).next E25).next E32).next D22)).rd 1 rfl | exact (hk4.from_ (((((((ah.rfl_.next E14).next E18).next E19).next E24).next E25).next E32).next D22)).rd 2 rfl))) rfl
       refine ⟨?_, ?_⟩
       · intro w23 D23
         rintro _ rfl
         show ay ..
         exact au (dt (v := .int _ _) rfl) rfl
       refine ⟨?_, ?_⟩
       · intro w24 D24
         rintro _ rfl
         show ay ..
         exact au (dt (v := .int _ _) rfl) rfl
       exact trivial
      case hend =>
       intro w25 D25
       rintro _ rfl _ rfl _ rfl _ rfl _ rfl _ rfl
       show St ..
       refine ai ?_
       refine bT ((_, _, er B p es, _, _, _)) ⟨rfl, rfl, rfl, trivial⟩ (by (iterate 20 refine bf rfl ?_); exact bB) ?_
       first
         | exact ⟨by unfold mgP; rw [if_pos hlt], by unfold mgQ; rw [if_pos hlt], rfl, by unfold er; rw [if_pos hlt, List.length_drop], by unfold er; rw [if_pos hlt]; exact (he.from_ (((((((((ah.rfl_.next E4).next E8).next E14).next E18).next E19).next E24).next E25).next E32).next D25)).restA (by omega), hk4.from_ (((((((ah.rfl_.next E14).next E18).next E19).next E24).next E25).next E32).next D25), hk8.from_ (((((((ah.rfl_.next E14).next E18).next E19).next E24).next E25).next E32).next D25), (((((((((ah.rfl_.next E4).next E8).next E14).next E18).next E19).next E24).next E25).next E32).next D25)⟩
         | exact ⟨by unfold mgP; rw [if_neg hlt], by unfold mgQ; rw [if_neg hlt], rfl, by unfold er; rw [if_neg hlt], by unfold er; rw [if_neg hlt]; exact he.from_ (((((((((ah.rfl_.next E4).next E8).next E14).next E18).next E19).next E24).next E25).next E32).next D25), hk4.from_ (((((((ah.rfl_.next E14).next E18).next E19).next E24).next E25).next E32).next D25), hk8.from_ (((((((ah.rfl_.next E14).next E18).next E19).next E24).next E25).next E32).next D25), (((((((((ah.rfl_.next E4).next E8).next E14).next E18).next E19).next E24).next E25).next E32).next D25)⟩
    replace Q17 := dF_ Q17
    have hlt := Q17
    refine aM ?_
    refine bT ((_, _, er B p es, _, _, _)) ⟨rfl, rfl, rfl, trivial⟩ (by (iterate 4 refine bf rfl ?_); exact bB) ?_
    first
      | exact ⟨by unfold mgP; rw [if_pos hlt], by unfold mgQ; rw [if_pos hlt], rfl, by unfold er; rw [if_pos hlt, List.length_drop], by unfold er; rw [if_pos hlt]; exact (he.from_ ((((((((ah.rfl_.next E4).next E8).next E14).next E18).next E19).next E24).next E25).next E32)).restA (by omega), hk4.from_ ((((((ah.rfl_.next E14).next E18).next E19).next E24).next E25).next E32), hk8.from_ ((((((ah.rfl_.next E14).next E18).next E19).next E24).next E25).next E32), ((((((((ah.rfl_.next E4).next E8).next E14).next E18).next E19).next E24).next E25).next E32)⟩
      | exact ⟨by unfold mgP; rw [if_neg hlt], by unfold mgQ; rw [if_neg hlt], rfl, by unfold er; rw [if_neg hlt], by unfold er; rw [if_neg hlt]; exact he.from_ ((((((((ah.rfl_.next E4).next E8).next E14).next E18).next E19).next E24).next E25).next E32), hk4.from_ ((((((ah.rfl_.next E14).next E18).next E19).next E24).next E25).next E32), hk8.from_ ((((((ah.rfl_.next E14).next E18).next E19).next E24).next E25).next E32), ((((((((ah.rfl_.next E4).next E8).next E14).next E18).next E19).next E24).next E25).next E32)⟩
  rintro ⟨P, Q, ys, A3, n3, c3⟩ ρ26 w26 ⟨hP6, hQ6, hys6, rfl, hes, hk4, hk8, hB⟩
  have hPB : B ≤ P := by rw [hP6]; unfold mgP; split <;> omega
  obtain ⟨t6, hrun6⟩ : ∃ t, dm ys P t = true := by rw [hP6, hys6]; exact mw hB0 hR hQv
  have hy6 : ys.length ≤ es.length := by rw [hys6]; unfold er; split <;> simp
  refine ak (af ?_)
  refine aa (aD (cs := [_, _, _]) aY aL rfl (by first | (first | exact (hk4.from_ ah.rfl_).whole | exact (hk4.from_ ah.rfl_).rd 0 rfl | exact (hk4.from_ ah.rfl_).rd 1 rfl | exact (hk4.from_ ah.rfl_).rd 2 rfl))) ?_
  refine az qa (vH B T A _ cA xs _ (h.from_ hB) hl) ?_
  rintro v55 w27 ⟨rfl, E55⟩
  refine mvt rfl ?_
  refine aa (aO rfl rfl) ?_
  refine aa (aO rfl rfl) ?_
  refine asi rfl ?_
  refine asi rfl ?_
  refine ai (ag (ak (ak (af ?_))))
  refine mvi rfl ?_
  refine mvi rfl ?_
  refine aa (ch rfl rfl) ?_
  refine mvb rfl ?_
  refine aJ (t := 61) rfl (fun Q28 => ?_) (fun Q28 => ?_)
  · replace Q28 := dT_ Q28
    have hms : B + (xs.length : Int) < mgP B p ∨ ¬ dw B T xs (mgP B p) = mgQ B T p q := .inl (by rw [← hP6]; exact Q28)
    refine an rfl rfl ?_
    refine an rfl rfl ?_
    refine an rfl rfl ?_
    refine an rfl rfl ?_
    refine an rfl rfl ?_
    refine aa (aG (v := .bool _) rfl rfl) ?_
    refine ai (ag ?_)
    refine aR rfl ?_
    refine ak (af ?_)
    refine aa (aD (cs := [_, _, _]) aY aL rfl (by first | (first | exact (hk4.from_ (ah.rfl_.next E55)).whole | exact (hk4.from_ (ah.rfl_.next E55)).rd 0 rfl | exact (hk4.from_ (ah.rfl_.next E55)).rd 1 rfl | exact (hk4.from_ (ah.rfl_.next E55)).rd 2 rfl))) ?_
    refine mvi rfl ?_
    have hb70 := (hk8.from_ (ah.rfl_.next E55)).lt
    refine az jV (nr B T _ xs.length A none _ cA 0 0 xs [] _ (h.from_ (hB.next E55)) (bX.nil_ _) hB0 (by omega) rfl (Nat.le_refl _) (by omega) (by simp)) ?_
    rintro v70 w29 ⟨A70, c70, rfl, ho70, E70⟩
    refine bK (vs := [_, _, _]) aL rfl rfl (by simp [Value.oneCell']) (hk8.from_ ((ah.rfl_.next E55).next E70)) rfl ?_
    intro w30 O8 P8
    refine asb rfl ?_
    refine asi rfl ?_
    refine ai (ag (aC (aE ?_)))
    refine jZ rfl (cL (cs := [_, _, _]) aY aL rfl (by first | exact P2.whole | exact P8.whole | exact P14.whole | exact P17.whole | exact P18.whole)) (da (v := .bool _) rfl) (da (v := .int _ _) rfl) ?_
    refine ⟨qV (ys := xs.take xs.length ++ []) (by unfold dL; rw [if_pos ⟨hm, hPv, hQv, hR⟩, if_pos hms]; simp) (by simp) (fj (j4 ho70 O8 hb70) (by omega)), (((hB.next E55).next E70).only O8 (hg8))⟩
  replace Q28 := dF_ Q28
  have hPL : P ≤ B + (xs.length : Int) := by omega
  refine ae rfl ?_
  refine aa (aD (cs := [_, _, _]) aY aL rfl (by first | (first | exact (hk4.from_ (ah.rfl_.next E55)).whole | exact (hk4.from_ (ah.rfl_.next E55)).rd 0 rfl | exact (hk4.from_ (ah.rfl_.next E55)).rd 1 rfl | exact (hk4.from_ (ah.rfl_.next E55)).rd 2 rfl))) ?_
  refine ae rfl ?_
  refine mvi rfl ?_
  refine ae rfl ?_
  refine az lQ (Rt.of (lT B T P _ xs _ (h.from_ (hB.next E55)) hB0 (by omega) hPB (by omega) (by omega))) ?_
  rintro v64 w31 ⟨rfl, E64⟩
  refine ae rfl ?_
  refine mvi rfl ?_
  refine ae rfl ?_
  refine aa (dp rfl rfl) ?_
  refine aa (av (v := .bool _) rfl rfl) ?_
  refine ai (ag ?_)
  refine aQ rfl (fun Q32 => ?_) (fun Q32 => ?_)
  · replace Q32 := dF Q32; replace Q32 := en Q32
    have hms : B + (xs.length : Int) < mgP B p ∨ ¬ dw B T xs (mgP B p) = mgQ B T p q := .inr (by rw [← hP6, ← hQ6]; exact Q32)
    refine ak (af ?_)
    refine aa (aD (cs := [_, _, _]) aY aL rfl (by first | (first | exact (hk4.from_ ((ah.rfl_.next E55).next E64)).whole | exact (hk4.from_ ((ah.rfl_.next E55).next E64)).rd 0 rfl | exact (hk4.from_ ((ah.rfl_.next E55).next E64)).rd 1 rfl | exact (hk4.from_ ((ah.rfl_.next E55).next E64)).rd 2 rfl))) ?_
    refine mvi rfl ?_
    have hb70 := (hk8.from_ ((ah.rfl_.next E55).next E64)).lt
    refine az jV (nr B T _ xs.length A none _ cA 0 0 xs [] _ (h.from_ ((hB.next E55).next E64)) (bX.nil_ _) hB0 (by omega) rfl (Nat.le_refl _) (by omega) (by simp)) ?_
    rintro v70 w33 ⟨A70, c70, rfl, ho70, E70⟩
    refine bK (vs := [_, _, _]) aL rfl rfl (by simp [Value.oneCell']) (hk8.from_ (((ah.rfl_.next E55).next E64).next E70)) rfl ?_
    intro w34 O8 P8
    refine asb rfl ?_
    refine asi rfl ?_
    refine ai (ag (aC (aE ?_)))
    refine jZ rfl (cL (cs := [_, _, _]) aY aL rfl (by first | exact P2.whole | exact P8.whole | exact P14.whole | exact P17.whole | exact P18.whole)) (da (v := .bool _) rfl) (da (v := .int _ _) rfl) ?_
    refine ⟨qV (ys := xs.take xs.length ++ []) (by unfold dL; rw [if_pos ⟨hm, hPv, hQv, hR⟩, if_pos hms]; simp) (by simp) (fj (j4 ho70 O8 hb70) (by omega)), ((((hB.next E55).next E64).next E70).only O8 (hg8))⟩
  replace Q32 := dG Q32; replace Q32 := ek Q32
  have hnm : ¬ (B + (xs.length : Int) < mgP B p ∨ ¬ dw B T xs (mgP B p) = mgQ B T p q) := by rw [← hP6, ← hQ6]; exact fun h0 => h0.elim (fun h1 => by omega) (fun h1 => h1 Q32)
  refine aM (ag ?_)
  refine fY (G := List Ent × Option Addr × Nat) [71, 72, 73, 74, 75, 76, 77, 78, 79, 80, 81, 82, 83, 84, 85, 86, 87, 88, 89, 90, 91, 92, 93, 94, 95, 96] (fun (ys, A4, c4) => [(3, .slice A4 ys.length c4)]) (fun (ys, A4, c4) w' => bX w' (.slice A4 ys.length c4) ys ∧ ys = dz B T xs (er B p es) ∧ (∀ e r, ys = e :: r → B + 1 ≤ e.i ∧ e.i ≤ B + xs.length + 1) ∧ ys.length ≤ es.length ∧ Blk w' b4 24 #[.int .i64 B, .int .i64 T, .slice A xs.length cA] ∧ Blk w' b8 24 #[.int .i64 0, .int .i64 0, .slice none 0 0] ∧ ah w w') ?_ ?_
  · refine a_ ?_
    refine cY (G := List Ent × Option Addr × Nat × Int × Int) [71, 72, 73, 74, 75, 76, 77, 78, 79, 80, 81, 82, 83, 84, 85, 86, 87, 88, 89, 90, 91, 92, 93, 94, 95, 96] (fun (zs, A4, c4, p', t') => [(3, .slice A4 zs.length c4)]) (fun (zs, A4, c4, p', t') w' => bX w' (.slice A4 zs.length c4) zs ∧ dz B T xs zs = dz B T xs ys ∧ dm zs p' t' = true ∧ B ≤ p' ∧ p' ≤ B + xs.length ∧ zs.length ≤ es.length ∧ Blk w' b4 24 #[.int .i64 B, .int .i64 T, .slice A xs.length cA] ∧ Blk w' b8 24 #[.int .i64 0, .int .i64 0, .slice none 0 0] ∧ ah w w') (fun (zs, A4, c4, p', t') => zs.length) ((ys, A3, c3, P, t6)) ⟨rfl, trivial⟩ ?_ ?_
    · exact ⟨hes.from_ ((ah.rfl_.next E55).next E64), rfl, hrun6, hPB, hPL, hy6, hk4.from_ ((ah.rfl_.next E55).next E64), hk8.from_ ((ah.rfl_.next E55).next E64), ((hB.next E55).next E64)⟩
    rintro ⟨zs, A4, c4, p', t'⟩ ρ35 w35 ⟨hzs, hsk, hrun, hpB, hpL, hzl, hk4, hk8, hB⟩
    refine ak (ak ?_)
    have hcases : zs = [] ∨ (∃ e r, zs = e :: r ∧ ¬ e.i ≤ B + xs.length) ∨ (∃ e r, zs = e :: r ∧ e.i ≤ B + xs.length) := by
      cases zs with
      | nil => exact .inl rfl
      | cons e r => by_cases h1 : e.i ≤ B + xs.length
                    · exact .inr (.inr ⟨e, r, rfl, h1⟩)
                    · exact .inr (.inl ⟨e, r, rfl, h1⟩)
    rcases hcases with rfl | ⟨e, r, rfl, h1⟩ | ⟨e, r, rfl, h1⟩
    · have hfin := hsk.trans (congrArg _ hys6)
      apply k7 24 [(71, eqp _), (72, eqp _), (73, eqp _), (74, eqp _), (75, eqp _), (76, eqp _), (77, eqp _), (78, eqp _), (79, eqp _), (80, eqp _), (81, eqp _), (82, eqp _), (83, eqp _), (84, eqp _), (85, eqp _), (86, eqp _), (87, eqp _), (88, eqp _), (89, eqp _), (90, eqp _), (91, eqp _), (92, eqp _), (93, eqp _), (94, eqp _)] (by kernel_rfl) (by kernel_rfl) ⟨aj _, aj _, aj _, aj _, aj _, aj _, aj _, aj _, aj _, aj _, aj _, aj _, aj _, aj _, aj _, aj _, aj _, aj _, aj _, aj _, aj _, aj _, aj _, aj _, trivial⟩
      case hop =>
       refine ⟨?_, ?_⟩
       · intro w37 D37
         show ay ..
         exact au (aK (v := .slice _ _ _) rfl) rfl
       refine ⟨?_, ?_⟩
       · intro w38 D38
         rintro _ rfl
         show ay ..
         exact au (bF bC rfl) rfl
       refine ⟨?_, ?_⟩
       · intro w39 D39
         rintro _ rfl
         show ay ..
         exact au (c8 (ch rfl rfl) (by simp)) rfl
       refine ⟨?_, ?_⟩
       · intro w40 D40
         rintro _ rfl
         show ay ..
         exact au (aK (v := .bool _) rfl) rfl
       refine ⟨?_, ?_⟩
       · intro w41 D41
         rintro _ rfl
         show ay ..
         exact cG rfl rfl rfl
       refine ⟨?_, ?_⟩
       · intro w42 D42
         rintro _ rfl _ rfl
         show ay ..
         exact cG rfl rfl rfl
       refine ⟨?_, ?_⟩
       · intro w43 D43
         rintro _ rfl _ rfl
         show ay ..
         exact cG rfl rfl rfl
       refine ⟨?_, ?_⟩
       · intro w44 D44
         rintro _ rfl _ rfl
         show ay ..
         exact cG rfl rfl rfl
       refine ⟨?_, ?_⟩
       · intro w45 D45
         rintro _ rfl
         show ay ..
         exact cG rfl rfl rfl
       refine ⟨?_, ?_⟩
       · intro w46 D46
         rintro _ rfl _ rfl _ rfl
         show ay ..
         exact cG rfl rfl rfl
       refine ⟨?_, ?_⟩
       · intro w47 D47
         rintro _ rfl _ rfl
         show ay ..
         exact au (av (v := .bool _) rfl rfl) rfl
       refine ⟨?_, ?_⟩
       · intro w48 D48
         rintro _ rfl
         show ay ..
         exact au (aK (v := .bool _) rfl) rfl
       refine ⟨?_, ?_⟩
       · intro w49 D49
         rintro _ rfl
         show ay ..
         exact cG rfl rfl rfl
       refine ⟨?_, ?_⟩
       · intro w50 D50
         rintro _ rfl
         show ay ..
         exact cG rfl rfl rfl
       refine ⟨?_, ?_⟩
       · intro w51 D51
         rintro _ rfl _ rfl
         show ay ..
         exact cG rfl rfl rfl
       refine ⟨?_, ?_⟩
       · intro w52 D52
         rintro _ rfl _ rfl
         show ay ..
         exact cG rfl rfl rfl
       refine ⟨?_, ?_⟩
       · intro w53 D53
         rintro _ rfl _ rfl
         show ay ..
         exact cG rfl rfl rfl
       refine ⟨?_, ?_⟩
       · intro w54 D54
         rintro _ rfl _ rfl _ rfl
         show ay ..
         exact cG rfl rfl rfl
       refine ⟨?_, ?_⟩
       · intro w55 D55
         rintro _ rfl
         show ay ..
         exact cG rfl rfl rfl
       refine ⟨?_, ?_⟩
       · intro w56 D56
         rintro _ rfl _ rfl
         show ay ..
         exact cG rfl rfl rfl
       refine ⟨?_, ?_⟩
       · intro w57 D57
         rintro _ rfl _ rfl
         show ay ..
         exact cG rfl rfl rfl
       refine ⟨?_, ?_⟩
       · intro w58 D58
         rintro _ rfl _ rfl
         show ay ..
         exact cG rfl rfl rfl
       refine ⟨?_, ?_⟩
       · intro w59 D59
         rintro _ rfl _ rfl _ rfl
         show ay ..
         exact cG rfl rfl rfl
       refine ⟨?_, ?_⟩
       · intro w60 D60
         rintro _ rfl _ rfl
         show ay ..
         exact au (av (v := .bool _) rfl rfl) rfl
       exact trivial
      case hend =>
       intro w61 D61
       rintro _ rfl _ rfl _ rfl _ rfl _ rfl _ rfl _ rfl _ rfl _ rfl _ rfl _ rfl _ rfl _ rfl _ rfl _ rfl _ rfl _ rfl _ rfl _ rfl _ rfl _ rfl _ rfl _ rfl _ rfl
       show St ..
       refine ai (ag ?_)
       refine bA rfl ?_
       refine cq ?_
       refine bg (bg (b_ ?_))
       refine bT ((_, _, _)) ⟨rfl, trivial⟩ (by (iterate 51 refine bf rfl ?_); exact bB) ?_
       exact ⟨hzs.from_ (ah.rfl_.next D61), hfin, (fun e r h0 => by cases h0 <;> (have := (et hrun).1; omega)), hzl, hk4.from_ (ah.rfl_.next D61), hk8.from_ (ah.rfl_.next D61), (hB.next D61)⟩
    · have hfin := (gj (r := r) (fun h0 => h1 h0.1)).symm.trans (hsk.trans (congrArg _ hys6))
      obtain ⟨b9, o9, rfl, hcell⟩ := hzs.head
      apply k7 24 [(71, eqp _), (72, eqp _), (73, eqp _), (74, eqp _), (75, eqp _), (76, eqp _), (77, eqp _), (78, eqp _), (79, eqp _), (80, eqp _), (81, eqp _), (82, eqp _), (83, eqp _), (84, eqp _), (85, eqp _), (86, eqp _), (87, eqp _), (88, eqp _), (89, eqp _), (90, eqp _), (91, eqp _), (92, eqp _), (93, eqp _), (94, eqp _)] (by kernel_rfl) (by kernel_rfl) ⟨aj _, aj _, aj _, aj _, aj _, aj _, aj _, aj _, aj _, aj _, aj _, aj _, aj _, aj _, aj _, aj _, aj _, aj _, aj _, aj _, aj _, aj _, aj _, aj _, trivial⟩
      case hop =>
       refine ⟨?_, ?_⟩
       · intro w63 D63
         show ay ..
         exact au (aK (v := .slice _ _ _) rfl) rfl
       refine ⟨?_, ?_⟩
       · intro w64 D64
         rintro _ rfl
         show ay ..
         exact au (bF bC rfl) rfl
       refine ⟨?_, ?_⟩
       · intro w65 D65
         rintro _ rfl
         show ay ..
         exact au (dh (ch rfl rfl) (by simp)) rfl
       refine ⟨?_, ?_⟩
       · intro w66 D66
         rintro _ rfl
         show ay ..
         exact au (aK (v := .bool _) rfl) rfl
       refine ⟨?_, ?_⟩
       · intro w67 D67
         rintro _ rfl
         show ay ..
         exact bc rfl (aK (v := .slice _ _ _) rfl) rfl
       refine ⟨?_, ?_⟩
       · intro w68 D68
         rintro _ rfl _ rfl
         show ay ..
         exact bc rfl (eR bU rfl rfl (by simp <;> omega)) rfl
       refine ⟨?_, ?_⟩
       · intro w69 D69
         rintro _ rfl _ rfl
         show ay ..
         exact bc rfl (ab eg rfl) rfl
       refine ⟨?_, ?_⟩
       · intro w70 D70
         rintro _ rfl _ rfl
         show ay ..
         exact bc rfl (ar ao rfl (by exact dT (ah.rfl_.next D70) hcell 0 _ rfl)) rfl
       refine ⟨?_, ?_⟩
       · intro w71 D71
         rintro _ rfl
         show ay ..
         exact bc rfl (aK (v := .int _ _) rfl) rfl
       refine ⟨?_, ?_⟩
       · intro w72 D72
         rintro _ rfl _ rfl _ rfl
         show ay ..
         exact bc rfl (c8 (gH rfl rfl) (decide_eq_false h1)) rfl
       refine ⟨?_, ?_⟩
       · intro w73 D73
         rintro _ rfl _ rfl
         show ay ..
         exact au (aG (v := .bool _) rfl rfl) rfl
       refine ⟨?_, ?_⟩
       · intro w74 D74
         rintro _ rfl
         show ay ..
         exact au (aK (v := .bool _) rfl) rfl
       refine ⟨?_, ?_⟩
       · intro w75 D75
         rintro _ rfl
         show ay ..
         exact cG rfl rfl rfl
       refine ⟨?_, ?_⟩
       · intro w76 D76
         rintro _ rfl
         show ay ..
         exact cG rfl rfl rfl
       refine ⟨?_, ?_⟩
       · intro w77 D77
         rintro _ rfl _ rfl
         show ay ..
         exact cG rfl rfl rfl
       refine ⟨?_, ?_⟩
       · intro w78 D78
         rintro _ rfl _ rfl
         show ay ..
         exact cG rfl rfl rfl
       refine ⟨?_, ?_⟩
       · intro w79 D79
         rintro _ rfl _ rfl
         show ay ..
         exact cG rfl rfl rfl
       refine ⟨?_, ?_⟩
       · intro w80 D80
         rintro _ rfl _ rfl _ rfl
         show ay ..
         exact cG rfl rfl rfl
       refine ⟨?_, ?_⟩
       · intro w81 D81
         rintro _ rfl
         show ay ..
         exact cG rfl rfl rfl
       refine ⟨?_, ?_⟩
       · intro w82 D82
         rintro _ rfl _ rfl
         show ay ..
         exact cG rfl rfl rfl
       refine ⟨?_, ?_⟩
       · intro w83 D83
         rintro _ rfl _ rfl
         show ay ..
         exact cG rfl rfl rfl
       refine ⟨?_, ?_⟩
       · intro w84 D84
         rintro _ rfl _ rfl
         show ay ..
         exact cG rfl rfl rfl
       refine ⟨?_, ?_⟩
       · intro w85 D85
         rintro _ rfl _ rfl _ rfl
         show ay ..
         exact cG rfl rfl rfl
       refine ⟨?_, ?_⟩
       · intro w86 D86
         rintro _ rfl _ rfl
         show ay ..
         exact au (av (v := .bool _) rfl rfl) rfl
       exact trivial
      case hend =>
       intro w87 D87
       rintro _ rfl _ rfl _ rfl _ rfl _ rfl _ rfl _ rfl _ rfl _ rfl _ rfl _ rfl _ rfl _ rfl _ rfl _ rfl _ rfl _ rfl _ rfl _ rfl _ rfl _ rfl _ rfl _ rfl _ rfl
       show St ..
       refine ai (ag ?_)
       refine bA rfl ?_
       refine cq ?_
       refine bg (bg (b_ ?_))
       refine bT ((_, _, _)) ⟨rfl, trivial⟩ (by (iterate 51 refine bf rfl ?_); exact bB) ?_
       exact ⟨hzs.from_ (ah.rfl_.next D87), hfin, (fun e r h0 => by cases h0 <;> (have := (et hrun).1; omega)), hzl, hk4.from_ (ah.rfl_.next D87), hk8.from_ (ah.rfl_.next D87), (hB.next D87)⟩
    obtain ⟨b9, o9, rfl, hcell⟩ := hzs.head
    apply k7 24 [(71, eqp _), (72, eqp _), (73, eqp _), (74, eqp _), (75, eqp _), (76, eqp _), (77, eqp _), (78, eqp _), (79, eqp _), (80, eqp _), (81, eqp _), (82, eqp _), (83, eqp _), (84, eqp _), (85, eqp _), (86, eqp _), (87, eqp _), (88, eqp _), (89, eqp _), (90, eqp _), (91, eqp _), (92, eqp _), (93, eqp _), (94, eqp _)] (by kernel_rfl) (by kernel_rfl) ⟨aj _, aj _, aj _, aj _, aj _, aj _, aj _, aj _, aj _, aj _, aj _, aj _, aj _, aj _, aj _, aj _, aj _, aj _, aj _, aj _, aj _, aj _, aj _, aj _, trivial⟩
    case hop =>
     refine ⟨?_, ?_⟩
     · intro w89 D89
       show ay ..
       exact au (aK (v := .slice _ _ _) rfl) rfl
     refine ⟨?_, ?_⟩
     · intro w90 D90
       rintro _ rfl
       show ay ..
       exact au (bF bC rfl) rfl
     refine ⟨?_, ?_⟩
     · intro w91 D91
       rintro _ rfl
       show ay ..
       exact au (dh (ch rfl rfl) (by simp)) rfl
     refine ⟨?_, ?_⟩
     · intro w92 D92
       rintro _ rfl
       show ay ..
       exact au (aK (v := .bool _) rfl) rfl
     refine ⟨?_, ?_⟩
     · intro w93 D93
       rintro _ rfl
       show ay ..
       exact bc rfl (aK (v := .slice _ _ _) rfl) rfl
     refine ⟨?_, ?_⟩
     · intro w94 D94
       rintro _ rfl _ rfl
       show ay ..
       exact bc rfl (eR bU rfl rfl (by simp <;> omega)) rfl
     refine ⟨?_, ?_⟩
     · intro w95 D95
       rintro _ rfl _ rfl
       show ay ..
       exact bc rfl (ab eg rfl) rfl
     refine ⟨?_, ?_⟩
     · intro w96 D96
       rintro _ rfl _ rfl
       show ay ..
       exact bc rfl (ar ao rfl (by exact dT (ah.rfl_.next D96) hcell 0 _ rfl)) rfl
     refine ⟨?_, ?_⟩
     · intro w97 D97
       rintro _ rfl
       show ay ..
       exact bc rfl (aK (v := .int _ _) rfl) rfl
     refine ⟨?_, ?_⟩
     · intro w98 D98
       rintro _ rfl _ rfl _ rfl
       show ay ..
       exact bc rfl (dh (gH rfl rfl) (decide_eq_true h1)) rfl
     refine ⟨?_, ?_⟩
     · intro w99 D99
       rintro _ rfl _ rfl
       show ay ..
       exact au (aG (v := .bool _) rfl rfl) rfl
     refine ⟨?_, ?_⟩
     · intro w100 D100
       rintro _ rfl
       show ay ..
       exact au (aK (v := .bool _) rfl) rfl
     refine ⟨?_, ?_⟩
     · intro w101 D101
       rintro _ rfl
       show ay ..
       exact bc rfl (aD (cs := [_, _, _]) aY aL rfl (by first | (first | exact (hk4.from_ (ah.rfl_.next D101)).whole | exact (hk4.from_ (ah.rfl_.next D101)).rd 0 rfl | exact (hk4.from_ (ah.rfl_.next D101)).rd 1 rfl | exact (hk4.from_ (ah.rfl_.next D101)).rd 2 rfl))) rfl
     refine ⟨?_, ?_⟩
     · intro w102 D102
       rintro _ rfl
       show ay ..
       exact bc rfl (aK (v := .slice _ _ _) rfl) rfl
     refine ⟨?_, ?_⟩
     · intro w103 D103
       rintro _ rfl _ rfl
       show ay ..
       exact bc rfl (eR bU rfl rfl (by simp <;> omega)) rfl
     refine ⟨?_, ?_⟩
     · intro w104 D104
       rintro _ rfl _ rfl
       show ay ..
       exact bc rfl (ab eg rfl) rfl
     refine ⟨?_, ?_⟩
     · intro w105 D105
       rintro _ rfl _ rfl
       show ay ..
       exact bc rfl (ar ao rfl (by exact dT (ah.rfl_.next D105) hcell 0 _ rfl)) rfl
     refine ⟨?_, ?_⟩
     · intro w106 D106
       rintro _ rfl _ rfl _ rfl
       show ay ..
       refine sg rfl lQ ((Rt.of (lT B T e.i _ xs _ (h.from_ (hB.next D106)) hB0 (by omega) (by have := (et hrun).1; omega) (by omega) (by omega))).mono ?_)
       rintro v _ ⟨rfl, E106'⟩; exact ⟨E106', rfl⟩
     refine ⟨?_, ?_⟩
     · intro w107 D107
       rintro _ rfl
       show ay ..
       exact bc rfl (aK (v := .slice _ _ _) rfl) rfl
     refine ⟨?_, ?_⟩
     · intro w108 D108
       rintro _ rfl _ rfl
       show ay ..
       exact bc rfl (eR bU rfl rfl (by simp <;> omega)) rfl
     refine ⟨?_, ?_⟩
     · intro w109 D109
       rintro _ rfl _ rfl
       show ay ..
       exact bc rfl (ab dC rfl) rfl
     refine ⟨?_, ?_⟩
     · intro w110 D110
       rintro _ rfl _ rfl
       show ay ..
       exact bc rfl (ar ao rfl (by exact dT (ah.rfl_.next D110) hcell 1 _ rfl)) rfl
     refine ⟨?_, ?_⟩
     · intro w111 D111
       rintro _ rfl _ rfl _ rfl
       show ay ..
       exact bc rfl (bt rfl rfl) rfl
     refine ⟨?_, ?_⟩
     · intro w112 D112
       rintro _ rfl _ rfl
       show ay ..
       exact au (aG (v := .bool _) rfl rfl) rfl
     exact trivial
    case hend =>
     intro w113 D113
     rintro _ rfl _ rfl _ rfl _ rfl _ rfl _ rfl _ rfl _ rfl _ rfl _ rfl _ rfl _ rfl _ rfl _ rfl _ rfl _ rfl _ rfl _ rfl _ rfl _ rfl _ rfl _ rfl _ rfl _ rfl
     show St ..
     refine ai (ag ?_)
     refine aQ rfl (fun Q114 => ?_) (fun Q114 => ?_)
     · replace Q114 := ek Q114
       have hq := Q114
       refine aM (ag (a_ (af ?_)))
       refine mvs rfl ?_
       refine aa (iZ (l := 1) bU rfl (.inr ⟨_, _, _, rfl, rfl, rfl⟩) (.inl ⟨rfl, rfl⟩) (by simp) (by have := hzs.len; simp at this; omega)) ?_
       refine ass rfl ?_
       refine ai (bN ?_)
       refine bT ((r, ig (some ⟨b9, o9, none⟩) c4 1 3, c4 - 1, p' + 1, e.t)) ⟨(by first | rfl | (refine bM ?_; omega)), trivial⟩ (by (iterate 54 refine bf rfl ?_); exact bB) ⟨?_, ?_⟩
       · exact ⟨(hzs.from_ (ah.rfl_.next D113)).restA (k := 1) (by simp), (lB ⟨h1, hq⟩).symm.trans hsk, (et hrun).2, by omega, by have := (et hrun).1; omega, by simp at hzl; omega, hk4.from_ (ah.rfl_.next D113), hk8.from_ (ah.rfl_.next D113), (hB.next D113)⟩
       · simp
     replace Q114 := en Q114
     have hfin := (gj (r := r) (fun h0 => Q114 h0.2)).symm.trans (hsk.trans (congrArg _ hys6))
     refine cq ?_
     refine bg (bg (b_ ?_))
     refine bT ((_, _, _)) ⟨rfl, trivial⟩ (by (iterate 51 refine bf rfl ?_); exact bB) ?_
     exact ⟨hzs.from_ (ah.rfl_.next D113), hfin, (fun e r h0 => by cases h0 <;> (have := (et hrun).1; omega)), hzl, hk4.from_ (ah.rfl_.next D113), hk8.from_ (ah.rfl_.next D113), (hB.next D113)⟩
  rintro ⟨zs, A4, c4⟩ ρ115 w115 ⟨hzs, hsk, hhold, hzl, hk4, hk8, hB⟩
  refine fY (G := Nat) [97, 98, 99, 100, 101, 102, 103, 104] (fun k => [(11, .int .i64 (B + (k : Nat)))]) (fun k w' => k = nP B xs zs ∧ k ≤ xs.length ∧ bX w' (.slice A4 zs.length c4) zs ∧ Blk w' b4 24 #[.int .i64 B, .int .i64 T, .slice A xs.length cA] ∧ Blk w' b8 24 #[.int .i64 0, .int .i64 0, .slice none 0 0] ∧ ah w w') ?_ ?_
  · refine ak (af ?_)
    refine mvs rfl ?_
    refine aa (bF bC rfl) ?_
    refine aa (ch rfl rfl) ?_
    refine ai (ag ?_)
    refine aQ rfl (fun Q116 => ?_) (fun Q116 => ?_)
    · replace Q116 := dT_ Q116
      obtain ⟨e, r, rfl⟩ := List.exists_cons_of_length_pos (show 0 < zs.length by omega)
      obtain ⟨b9, o9, rfl, hcell⟩ := hzs.head
      obtain ⟨hh1, hh2⟩ := hhold e r rfl
      obtain ⟨k0, hk0⟩ : ∃ k0, k0 = (e.i - 1 - B).toNat := ⟨_, rfl⟩
      refine af ?_
      refine mvs rfl ?_
      refine aa (eR bU rfl rfl (by simp <;> omega)) ?_
      refine aa (ab eg rfl) ?_
      refine aa (ar ao rfl (by exact dT ah.rfl_ hcell 0 _ rfl)) ?_
      refine aa (dM rfl rfl (by omega)) ?_
      refine asi rfl ?_
      refine ai ?_
      refine bT (k0) ⟨(by first | rfl | (refine bM ?_; omega)), trivial⟩ (by (iterate 9 refine bf rfl ?_); exact bB) ?_
      exact ⟨hk0, by omega, hzs.from_ ah.rfl_, hk4.from_ ah.rfl_, hk8.from_ ah.rfl_, hB⟩
    replace Q116 := dF_ Q116
    obtain rfl : zs = [] := List.eq_nil_of_length_eq_zero (by omega)
    obtain ⟨k0, hk0⟩ : ∃ k0, k0 = xs.length := ⟨_, rfl⟩
    refine aM ?_
    refine bT (k0) ⟨(by first | rfl | (refine bM ?_; omega)), trivial⟩ (by (iterate 3 refine bf rfl ?_); exact bB) ?_
    exact ⟨hk0, by omega, hzs.from_ ah.rfl_, hk4.from_ ah.rfl_, hk8.from_ ah.rfl_, hB⟩
  rintro k ρ117 w117 ⟨hk13, hkl, hzs, hk4, hk8, hB⟩
  refine ak (ak (af ?_))
  refine mvi rfl ?_
  refine aa (ab ct rfl) ?_
  refine aa (ar ao rfl (by first | (first | exact (hk4.from_ ah.rfl_).whole | exact (hk4.from_ ah.rfl_).rd 0 rfl | exact (hk4.from_ ah.rfl_).rd 1 rfl | exact (hk4.from_ ah.rfl_).rd 2 rfl))) ?_
  refine aa (dM rfl rfl (by omega)) ?_
  refine mvs rfl ?_
  refine aa (bF bC rfl) ?_
  refine aa (bW rfl rfl (by omega)) ?_
  refine aa (ch rfl rfl) ?_
  refine ai (ag ?_)
  refine aQ rfl (fun Q118 => ?_) (fun Q118 => ?_)
  · replace Q118 := dT_ Q118
    refine ak (af ?_)
    refine aa (cy (l := []) (eX)) ?_
    refine bK (vs := [_, _, _]) aL rfl rfl (by simp [Value.oneCell']) (hk8.from_ ah.rfl_) rfl ?_
    intro w119 O14 P14
    refine asb rfl ?_
    refine asi rfl ?_
    refine ai (ag (aC (aE ?_)))
    refine jZ rfl (cL (cs := [_, _, _]) aY aL rfl (by first | exact P2.whole | exact P8.whole | exact P14.whole | exact P17.whole | exact P18.whole)) (da (v := .bool _) rfl) (da (v := .int _ _) rfl) ?_
    exact ⟨nm (by unfold dL; rw [if_pos ⟨hm, hPv, hQv, hR⟩, if_neg hnm, ← hsk]; unfold mg2; rw [← hk13, if_pos (by omega)]) (by decide), (hB.only O14 (hg8))⟩
  replace Q118 := dF_ Q118
  refine aM (ag (ak (af ?_)))
  refine aa (aD (cs := [_, _, _]) aY aL rfl (by first | (first | exact (hk4.from_ ah.rfl_).whole | exact (hk4.from_ ah.rfl_).rd 0 rfl | exact (hk4.from_ ah.rfl_).rd 1 rfl | exact (hk4.from_ ah.rfl_).rd 2 rfl))) ?_
  refine mvi rfl ?_
  refine mvs rfl ?_
  have hb117 := (hk8.from_ ah.rfl_).lt
  refine az jV (nr B T _ k A A4 _ cA _ c4 xs zs _ (h.from_ hB) (hzs.from_ ah.rfl_) hB0 (by omega) rfl hkl (by omega) (by omega)) ?_
  rintro v117 w120 ⟨A117, c117, rfl, ho117, E117⟩
  refine bK (vs := [_, _, _]) aL rfl rfl (by simp [Value.oneCell']) (hk8.from_ (ah.rfl_.next E117)) rfl ?_
  intro w121 O15 P15
  refine ai (ag (ak (ak (af ?_))))
  refine aa (aD (cs := [_, _, _]) aY aL rfl (by exact P15.whole)) ?_
  refine az lS (Rt.of (ja B T _ (xs.take k ++ zs) _ (bX.of_own (j4 ho117 O15 hb117) (by simp; omega)))) ?_
  rintro v119 w122 ⟨rfl, E119⟩
  refine aa (dp rfl rfl) ?_
  refine ai (ag ?_)
  refine aQ rfl (fun Q123 => ?_) (fun Q123 => ?_)
  · replace Q123 := dF Q123; replace Q123 := en Q123
    have hmay : ¬ bR B T (xs.take k ++ zs) = true := fun h0 => Q123 (by unfold chk; rw [if_pos h0])
    refine ak (af ?_)
    refine aa (cy (l := []) (eX)) ?_
    refine bK (vs := [_, _, _]) aL rfl rfl (by simp [Value.oneCell']) (P15.from_ (ah.rfl_.next E119)) rfl ?_
    intro w124 O17 P17
    refine asb rfl ?_
    refine asi rfl ?_
    refine ai (ag (aC (aE ?_)))
    refine jZ rfl (cL (cs := [_, _, _]) aY aL rfl (by first | exact P2.whole | exact P8.whole | exact P14.whole | exact P17.whole | exact P18.whole)) (da (v := .bool _) rfl) (da (v := .int _ _) rfl) ?_
    exact ⟨nm (by unfold dL; rw [if_pos ⟨hm, hPv, hQv, hR⟩, if_neg hnm, ← hsk]; unfold mg2; rw [← hk13, if_neg (by omega), if_neg hmay]) (by decide), ((((hB.next E117).only O15 (hg8)).next E119).only O17 (hg8))⟩
  replace Q123 := dG Q123; replace Q123 := ek Q123
  have hmay : bR B T (xs.take k ++ zs) = true := by
    cases hm : bR B T (xs.take k ++ zs) with
    | true => rfl
    | false => unfold chk at Q123; rw [hm] at Q123; cases Q123
  refine aM (ag (ak (af ?_)))
  refine aa (aD (cs := [_, _, _]) aY aL rfl (by exact (P15.from_ (ah.rfl_.next E119)).whole)) ?_
  have ho122 := (j4 ho117 O15 hb117).kept_from (ah.rfl_.next E119)
  refine bK (vs := [_, _, _]) aL rfl rfl (by simp [Value.oneCell']) (P15.from_ (ah.rfl_.next E119)) rfl ?_
  intro w125 O18 P18
  refine asb rfl ?_
  refine asi rfl ?_
  refine ai (ag (aC ?_))
  refine jZ rfl (cL (cs := [_, _, _]) aY aL rfl (by first | exact P2.whole | exact P8.whole | exact P14.whole | exact P17.whole | exact P18.whole)) (da (v := .bool _) rfl) (da (v := .int _ _) rfl) ?_
  refine ⟨qV (ys := xs.take k ++ zs) (by unfold dL; rw [if_pos ⟨hm, hPv, hQv, hR⟩, if_neg hnm, ← hsk]; unfold mg2; rw [← hk13, if_neg (by omega), if_pos hmay]) (by simp; omega) (fj (j4 ho122 O18 hb117) (by omega)), ((((hB.next E117).only O15 (hg8)).next E119).only O18 (hg8))⟩
theorem Blk.grownA {w w':World} {g:Nat} {t:TypeId} {cs:Array Value} {row:Option Nat} (h:Blk w g t cs) (hg:w.grownBy w' row) (hne:some g≠row):Blk w' g t cs:=(hg.block g h.lt hne).trans h
theorem pS {ops:Array Oper} {rest:List Oper} {o:Oper} {a:Act} {Q:Exit→Act→World→Prop} {wr:World} (a0:World) (hgd:o.guard=none) (s x:Operand) (t:TypeId)
 (ho:o.op=.call { callee:=.builtin .append,args:=#[s,x],argTypes:=#[t,t] }) (ht:prog.underlying t=some (.slice 99))
 (v:Value) (n:Nat) (xs:List Ent) (hs:a.eval s=v) (hown:wr.ownsRow a0.heap.size 99 3 v n (cN xs)) (hw:ah a0 wr) (v2:Value) (news:List Ent) (hx:a.eval x=v2) (hr:bX wr v2 news)
 (hroom:n+news.length≤1000000000000)
 (h:∀ v' w',w'.ownsRow a0.heap.size 99 3 v' (n+news.length) (cN (xs++news))→ah a0 w'→wr.grownBy w' v.ownBlock→wpList prog ops Q rest (a.put o.dst v') w'):wpList prog ops Q (o::rest) a wr:=by
 obtain ⟨i0,hi0,hz0,hz1,hz2⟩:=info_parts px;have hr0:=hr;obtain ⟨A,cap,rfl,hc1,hc2,hc3,hp⟩:=hr;cases A with
 |none=>
  have h0:=hc3 rfl;subst h0;have hnn:news=[]:=List.eq_nil_of_length_eq_zero (by omega);subst hnn;refine wpList_append_own_none (P:=prog) hgd s x t ho a0.heap.size 99 i0 3 ht hi0 v n (cN xs) hs hown hx (h v wr ?_ hw ⟨rfl,rfl,rfl,Nat.le_refl _,fun _ _ _=>rfl⟩);simpa using hown
 |some ad=>
  refine wpList_append_own (P:=prog) _ hgd s x t ho a0.heap.size 99 i0 _ 3 32 ht hi0 hz0 hz1 hz2 rfl (by decide) v n (cN xs) hs hown ad news.length cap (cN news) hx (eW news) (hr0.cellV rfl) (sC news) (by unfold maxLen;omega) (by omega) hw.size ?_;intro v' w' hown' hg _;rw [←fK] at hown';exact h v' w' hown' (hw.grew hg (fun k hk=>(hown.lt k hk).1)) hg
theorem yY {w:World} {base size n g:Nat} {e t:TypeId} {v:Value} {xs:List Value} {cs:Array Value} (h:w.ownsRow base e size v n xs) (hb:Blk w g t cs) (hne:t≠e) (i:Nat) (u:Value):(w.setCell ⟨g,i,none⟩ u).ownsRow base e size v n xs:=by
 refine ⟨h.1,?_⟩;rcases h.2 with h2 | ⟨g',cap,cur,hv,hg,hh,r⟩
 ·exact .inl h2
 ·refine .inr ⟨g',cap,cur,hv,hg,?_,r⟩
  have hd:g'≠g:=by
   rintro rfl;unfold Blk at hb;rw [hb] at hh;simp only [Option.some.injEq,Obj.cells.injEq] at hh;exact hne hh.2.1
  rw [Below.heap_setCell w ⟨g,i,none⟩ u g' hd];exact hh
def jm (B T:Int) (xs ys:List Ent):Int:=if dm ys (dy B xs) (di T xs)=true then (if xs.length+ys.length≤512 then 0 else 6) else 1
theorem pW (B T:Int) (v u:Value) (xs ys:List Ent) (w:World) (h:bX w v xs) (hu:bX w u ys) (hm:bR B T xs=true) (hy:ys.length≤400000000000) :
 Calls prog 172 #[.agg #[.int .i64 B,.int .i64 T,v],u] w fun e w'=>∃ L,e=.returned (.tuple #[L,.int .i64 (jm B T xs ys)])∧zV w w' B T (xs++ys) (jm B T xs ys) L∧ah w w':=by
 obtain ⟨f0,f1,f2,hbb,hwb⟩:=fP (w:=w) (B:=B) (T:=T) (v:=v) (t:=24);have hlo:=fun w' (hw:ah w w')=>kS B T v xs w' (h.from_ hw)
 have h2:=k8 w B T v;have hb2:=nV w B T v;have h22:ah (iq w B T v) (iq w B T v):=ah.rfl_;have hres:∀ w1,ah (iq w B T v) w1→Blk w1 (w.heap.size+1) 24 #[.int .i64 0,.int .i64 0,.slice none 0 0]:=fun w1 h=>mb h
 have HRES:=Lib.hid hres;have HE:=Lib.hid h;have HU:=Lib.hid hu;have hdef:jm B T xs ys=jm B T xs ys:=rfl
 conv at hdef=>rhs;unfold jm
 simp only [ye,iq] at h2 hb2 h22 HRES;obtain ⟨A,cap,rfl,hc1,hc2,hc3,hrow⟩:=h;obtain ⟨A2,cap2,rfl,hd1,hd2,hd3,hrow2⟩:=hu;clear hc3 hrow hd3 hrow2 hres;obtain ⟨hl,hB0,hB1,hx⟩:=np hm;rw [hl] at hlo hdef;have hru:=fun w' (hw:ah w w')=>o0 (B+xs.length) (di T xs) _ ys w' (HU.out.from_ hw) (by omega) (by omega) (by omega)
 have HL:=Lib.hid hlo;clear hlo hm hl;rcases hr:dm ys (B+xs.length) (di T xs) with _ | _
 ·rw [hr] at hru hdef;rw [if_neg (by simp)] at hdef;rw [hdef];have HR:=Lib.hid hru;clear hr hdef hru
  go_enter Tryz.func172,Tryz.ntmps172
  go_wp2_with (first
   |(go_at_call 65;(with_reducible refine (HL.out _ h2).mono ?_);rintro e w2 ⟨rfl,hb3⟩;have hw2:=ah.next (a:=w) h2 hb3;have h23:=ah.next (a:=_) h22 hb3;have hbw2:=ah.next (a:=_) hb2 hb3)
   |(go_at_call 105;(with_reducible refine (HR.out _ hw2).mono ?_);rintro e w3 ⟨rfl,hb4⟩;have hw3:=ah.next (a:=w) hw2 hb4;have h24:=ah.next (a:=_) h23 hb4;have hbw3:=ah.next (a:=_) hbw2 hb4;have hk:=HRES.out w3 h24;obtain ⟨⟨s0,s1,s2⟩,t0,t1,t2⟩:=fU hk))
  have hk2:=HRES.out w3 h24;obtain ⟨x0,x1,x2⟩:=gi hk2 (.int .i64 0) (.int .i64 0) (.slice none 0 0);simp only [oq] at x0 x1 x2
  (try simp only [Exit.inBlock,Exit.then])
  refine bodyPost_ret (v:=.tuple #[.agg #[.int .i64 0,.int .i64 0,.slice none 0 0],.int .i64 1]) (by simp [results,Tryz.results172,go_sem,x0,x1,x2]) rfl ?_;exact ⟨_,rfl,⟨fun _=>rfl,fun h=>absurd h (by decide)⟩,gK hw3 (by omega)⟩
 ·rw [hr] at hru hdef;rw [if_pos rfl] at hdef;have HR:=Lib.hid hru;by_cases hsum:xs.length+ys.length≤512
  ·rw [if_pos hsum] at hdef;rw [hdef];have hd:decide ((512:Int)<(xs.length:Int)+(ys.length:Int))=false:=by simp;omega
   have hcp:=fun w' (hw:ah w w')=>nT B T _ xs w' (HE.out.from_ hw) (by omega)
   have HCP:=Lib.hid hcp;have hroom:xs.length+ys.length≤1000000000000:=by omega
   clear hr hdef hru hcp hsum
   go_enter Tryz.func172,Tryz.ntmps172
   go_wp2_with (first
    |(go_at_call 65;(with_reducible refine (HL.out _ h2).mono ?_);rintro e w2 ⟨rfl,hb3⟩;have hw2:=ah.next (a:=w) h2 hb3;have h23:=ah.next (a:=_) h22 hb3;have hbw2:=ah.next (a:=_) hb2 hb3)
    |(go_at_call 105;(with_reducible refine (HR.out _ hw2).mono ?_);rintro e w3 ⟨rfl,hb4⟩;have hw3:=ah.next (a:=w) hw2 hb4;have h24:=ah.next (a:=_) h23 hb4;have hbw3:=ah.next (a:=_) hbw2 hb4)
    |(go_at_call 27;(with_reducible refine (HCP.out _ hw3).mono ?_);rintro e w4 ⟨v4,rfl,hown4,hb5⟩;obtain ⟨A4,c4,rfl⟩:=fk hown4;have HO:=Lib.hid hown4;clear hown4;have hw4:=ah.next (a:=w) hw3 hb5;have h25:=ah.next (a:=_) h24 hb5;have h34:=ah.next (a:=w3) ah.rfl_ hb5;have h34n:=ah.new h34 (.cells #[.int .i64 B,.int .i64 T,.slice A4 xs.length c4] 24))
    |(at_builtin;refine pS w3 rfl (.tmp 31) (.tmp 32) 22 rfl Tryz.underlying22 _ xs.length xs rfl (HO.out.alloc _) h34n _ ys rfl (HU.out.from_ (hw3.next h34n)) hroom ?_;intro v5 w5 hown5 hw5 hgr;obtain ⟨A5,c5,rfl⟩:=fk hown5;have HO5:=Lib.hid hown5;clear hown5;have hbk:=(Blk.new w4 24 #[.int .i64 B,.int .i64 T,.slice A4 xs.length c4]).grownA hgr (fun e=>Nat.lt_irrefl _ (HO.out.lt _ e.symm).2);have hrs:=HRES.out w5 (h24.next hw5);have q1:=(fU hbk).1.2.2;have q2:=(fU hbk).2.2.2;have b3:=hbk.set_ 2 (.slice A5 (xs.length+ys.length) c5);have r0:=b3.cell 0;have r1:=b3.cell 1;have r2:=b3.cell 2;simp at r0 r1 r2;have hlt:=h25.size;have hrs2:=hrs.far (p:=⟨w4.heap.size,2,none⟩) (by intro e;simp at e hlt;omega) (.slice A5 (xs.length+ys.length) c5);obtain ⟨⟨s0,s1,s2⟩,t0,t1,t2⟩:=fU hrs2))
   obtain ⟨x0,x1,x2⟩:=gi hrs2 (.int .i64 B) (.int .i64 T) (.slice A5 (xs.length+ys.length) c5);simp only [oq] at x0 x1 x2
   (try simp only [Exit.inBlock,Exit.then])
   refine bodyPost_ret (v:=.tuple #[.agg #[.int .i64 B,.int .i64 T,.slice A5 (xs.length+ys.length) c5],.int .i64 0]) (by simp [results,Tryz.results172,go_sem,x0,x1,x2]) rfl ?_;have hsz2:w.heap.size+2≤w3.heap.size:=by simpa using h24.size
   have h34s:=h34.size;refine ⟨_,rfl,⟨fun h=>absurd rfl h,fun _=>⟨_,rfl,?_⟩⟩,gK (ah.set_ (p:=⟨w4.heap.size,2,none⟩) (hw3.next hw5) (by show w.heap.size≤w4.heap.size;omega) _) (by omega)⟩;rw [List.length_append];refine fj (base:=w3.heap.size) ?_ (by omega);refine ownsRow_setCell_below (ownsRow_setCell_below (ownsRow_setCell_below (yY HO5.out hbk (by decide) 2 _) ?_ _) ?_ _) ?_ _
   all_goals (show _<w3.heap.size;simp;omega)
  ·rw [if_neg hsum] at hdef;rw [hdef];have hd:decide ((512:Int)<(xs.length:Int)+(ys.length:Int))=true:=by simp;omega
   clear hr hdef hru hsum
   go_enter Tryz.func172,Tryz.ntmps172
   go_wp2_with (first
    |(go_at_call 65;(with_reducible refine (HL.out _ h2).mono ?_);rintro e w2 ⟨rfl,hb3⟩;have hw2:=ah.next (a:=w) h2 hb3;have h23:=ah.next (a:=_) h22 hb3;have hbw2:=ah.next (a:=_) hb2 hb3)
    |(go_at_call 105;(with_reducible refine (HR.out _ hw2).mono ?_);rintro e w3 ⟨rfl,hb4⟩;have hw3:=ah.next (a:=w) hw2 hb4;have h24:=ah.next (a:=_) h23 hb4;have hbw3:=ah.next (a:=_) hbw2 hb4;have hk:=HRES.out w3 h24;obtain ⟨⟨s0,s1,s2⟩,t0,t1,t2⟩:=fU hk))
   have hk2:=HRES.out w3 h24;obtain ⟨x0,x1,x2⟩:=gi hk2 (.int .i64 0) (.int .i64 0) (.slice none 0 0);simp only [oq] at x0 x1 x2
   (try simp only [Exit.inBlock,Exit.then])
   refine bodyPost_ret (v:=.tuple #[.agg #[.int .i64 0,.int .i64 0,.slice none 0 0],.int .i64 6]) (by simp [results,Tryz.results172,go_sem,x0,x1,x2]) rfl ?_;exact ⟨_,rfl,⟨fun _=>rfl,fun h=>absurd h (by decide)⟩,gK hw3 (by omega)⟩
theorem cX:cD prog 24 2=some 2:=by kernel_rfl
theorem bk:jG prog 22=some false:=by kernel_rfl
theorem kA:aN prog 27=true:=by kernel_rfl
theorem gW:ef prog 22=some 1:=by kernel_rfl
theorem l_ (B T:Int) (A:Option Addr) (n c:Nat) (xs:List Ent) (w:World) (h:bX w (.slice A n c) xs) (hl:xs.length≤400000000000) :
 Rt prog 27 [.agg #[.int .i64 B,.int .i64 T,.slice A n c]] w fun v w'=>∃ A' c',v=.agg #[.int .i64 B,.int .i64 T,.slice A' xs.length c']∧w'.ownsRow w.heap.size 99 3 (.slice A' xs.length c') xs.length (cN xs)∧bX w' (.slice A' xs.length c') xs∧ah w w':=
 Calls.mono (nT B T _ xs w h hl) fun e w' ⟨v',he,ho,hF⟩=>⟨_,he,by obtain ⟨A',c',rfl⟩:=fk ho;exact ⟨A',c',rfl,ho,bX.of_own ho rfl,hF⟩⟩
theorem bX.lenR {w:World} {A:Option Addr} {n c:Nat} {xs:List Ent} (h:bX w (.slice A n c) xs):n=xs.length∧xs.length≤c:=by
 obtain ⟨A',c',hv,h1,_⟩:=h;simp only [Value.slice.injEq] at hv;obtain ⟨_,rfl,rfl⟩:=hv;exact ⟨rfl,h1⟩
theorem vN (xs:List Ent) (k:Nat) (hk:k≤xs.length):cN (xs.take k)=(cN xs).take (k*3):=by
 have h:cN xs=cN (xs.take k)++cN (xs.drop k):=by rw [←fK,List.take_append_drop]
 have hl:(cN (xs.take k)).length=k*3:=by rw [eW,List.length_take];congr 1;omega
 have h2:(cN (xs.take k)++cN (xs.drop k)).take (k*3)=cN (xs.take k):=by
  rw [List.take_append_of_le_length (by omega),List.take_of_length_le (by omega)]
 rw [←h] at h2;exact h2.symm
theorem yZ {w:World} {base e n c k:Nat} {A:Option Addr} {xs:List Ent} (h:w.ownsRow base e 3 (.slice A n c) n (cN xs)) (hn:n=xs.length) (hk:k≤n):w.ownsRow base e 3 (.slice (ig A c 0 3) (k-0) (c-0)) k (cN (xs.take k)):=by
 have e0:ig A c 0 3=A:=by
  unfold ig;split
  ·rfl
  ·cases A with
   |none=>rfl
   |some a=>simp [Addr.add_zero']
 rw [e0];refine ⟨by rw [eW,List.length_take];congr 1;omega,?_⟩;rcases h.2 with ⟨h1,h2⟩ | ⟨g,cap,cur,hv,hb,hg,h3,h4,h5,h6⟩
 ·simp only [Value.slice.injEq] at h1;obtain ⟨rfl,rfl,rfl⟩:=h1;exact .inl ⟨by rw [show k-0=0 by omega],by omega⟩
 ·simp only [Value.slice.injEq] at hv;obtain ⟨rfl,_,rfl⟩:=hv;refine .inr ⟨g,c,cur,by simp,hb,hg,by omega,h4,h5,?_⟩;rw [vN xs k (by omega),←h6,List.take_take]
  congr 1
  have:k*3≤n*3:=Nat.mul_le_mul_right _ hk;omega
def By (B T:Int) (xs:List Ent) (i t:Int):Bool:=decide (di T xs<t∨(t=di T xs∧dy B xs≤i))
theorem vA (B T i:Int) (A:Option Addr) (c:Nat) (xs:List Ent) (w:World) (h:bX w (.slice A xs.length c) xs) (hl:xs.length≤512) (_:0≤B∧B≤1099511625728) (hi:B≤i∧i≤B+xs.length) :
 Rt prog 171 [.agg #[.int .i64 B,.int .i64 T,.slice A xs.length c],.int .i64 i] w (fun v w'=>∃ A' k' c',v=.agg #[.int .i64 B,.int .i64 T,.slice A' k' c']∧w'.ownsRow w.heap.size 99 3 (.slice A' k' c') k' (cN (xs.take (i-B).toNat))∧ah w w'):=by
 refine enter (n:=17) Tryz.func171 rfl rfl rfl (ak (af (bZ (v:=.agg _) rfl ?_)));intro b2 w1 E2 hb2 hk2;have hl2:=hk2.lt;refine bQ eD ?_;intro b4 w2 E4 hb4 hk4;have hl4a:=hk4.lt;replace hk2:=hk2.from_ E4;have hg4:w.heap.size≤b4:=by rw [hb4];exact E2.size
 refine ai (ag (ak (af (aa (aD (cs:=[_,_,_]) aY aL rfl (by first | (first | exact (hk2.from_ ah.rfl_).whole | exact (hk2.from_ ah.rfl_).rd 0 rfl | exact (hk2.from_ ah.rfl_).rd 1 rfl | exact (hk2.from_ ah.rfl_).rd 2 rfl))) ?_))));refine az kA (l_ B T A _ c xs _ (h.from_ ((ah.rfl_.next E2).next E4)) (by omega)) ?_;rintro v7 w3 ⟨A7,c7,rfl,ho7,he7,E7⟩;have hk2c:=hk2.from_ (ah.rfl_.next E7);have hk4c:=hk4.from_ (ah.rfl_.next E7);have hl4:=hk4c.lt;have hl2b:=hk2c.lt;refine bQ eD ?_;intro b5 w4 E5 hb5 hk5;have hg5:w.heap.size≤b5:=by rw [hb5];exact ((((ah.rfl_.next E2).next E4).next E7)).size
 refine bK (vs:=[_,_,_]) aL rfl rfl (by simp [Value.oneCell']) (hk5) rfl ?_;intro w5 O1 P1;replace hk2:=(hk2c.from_ E5).only O1 (by omega);replace hk4:=(hk4c.from_ E5).only O1 (by omega);refine ai (ag (ak (af (aa (ab cX rfl) (aa (ar bk rfl (by first | exact (P1.from_ ah.rfl_).whole | exact (P1.from_ ah.rfl_).rd 2 rfl)) ?_)))));refine mvi rfl (aa (ab ct rfl) (aa (ar ao rfl (by exact hk2.rd 0 rfl)) ?_));refine aa (dM rfl rfl (by omega)) (aa (iZ (l:=0) (h:=(i-B).toNat) bU rfl (.inl ⟨rfl,rfl⟩) (.inr ⟨_,_,_,rfl,rfl,(by omega)⟩) (by omega) (by have:=he7.lenR;omega)) ?_);refine aa (ab cX rfl) (eE (v:=.slice _ _ _) gW rfl rfl rfl (P1) (by simp) ?_);intro w6 O2 P2;replace hk4:=hk4.only O2 (by omega);refine ai (ag (ak (af (aa (aD (cs:=[_,_,_]) aY aL rfl (by exact P2.whole)) ?_))));refine bK (vs:=[_,_,_]) aL rfl rfl (by simp [Value.oneCell']) (hk4) rfl ?_;intro w7 O3 P3;refine ai (ag (aC (lK rfl (cL (cs:=[_,_,_]) aY aL rfl (by exact P3.whole)) ?_)));exact ⟨_,_,_,rfl,fj (yZ (j4 (ho7.kept_from (((E5).only O1 (by omega)).only O2 (by omega))) O3 (by omega)) rfl (by omega)) (by omega),(((((((ah.rfl_.next E2).next E4).next E7).next E5).only O1 (hg5)).only O2 (hg5)).only O3 (hg4))⟩
def kU (Ex:List Nat) (RL:List (Nat×(Value→World→Prop))) (t:Nat):Value→World→Prop:=bif Ex.elem t then fun _ _=>True else h_ RL t
theorem tJ {Ex:List Nat} {l:List (Nat×(Value→World→Prop))} (h:qJ l):∀ t v w1 w2,ah w1 w2→kU Ex l t v w1→kU Ex l t v w2:=by
 intro t v w1 w2 hF h1;unfold kU at h1 ⊢;cases hb:Ex.elem t with
 |true=>trivial
 |false=>rw [hb] at h1;exact il h t v w1 w2 hF h1
theorem xN {Ex:List Nat} {l:List (Nat×(Value→World→Prop))}:∀ t v w,h_ l t v w→kU Ex l t v w:=by
 intro t v w h;unfold kU;cases hb:Ex.elem t with
 |true=>trivial
 |false=>exact h
def MuR (Ex:List Nat) (d:Nat) (w1 w2:World):List (Nat×(Value→World→Prop))→Prop
 |[]=>True
 |(k,R)::r=>((Ex.elem k||Nat.beq k d)=true∨∀ u,R u w1→R u w2)∧MuR Ex d w1 w2 r
theorem pf {Ex:List Nat} {d:Nat} {w1 w2:World}:∀ {RL:List (Nat×(Value→World→Prop))},MuR Ex d w1 w2 RL→∀ t u,t≠d→h_ RL t u w1→kU Ex RL t u w2
 |[],_,t,u,_,_=>by unfold kU;cases Ex.elem t <;> trivial
 |(k,R)::r,⟨h1,h2⟩,t,u,hd,h=>by
  have e:h_ ((k,R)::r) t=bif Nat.beq t k then R else h_ r t:=rfl
  have ih:=pf h2 t u hd;unfold kU at ih ⊢;rw [e] at h ⊢;cases hx:Ex.elem t with
  |true=>trivial
  |false=>
   rw [hx] at ih;simp only [cond_false] at ih ⊢;cases hb:Nat.beq t k with
   |true=>
    have hk:t=k:=Nat.eq_of_beq_eq_true hb;subst hk;rw [hb] at h;rcases h1 with h1 | h1
    ·rw [hx,Bool.false_or] at h1;exact absurd (Nat.eq_of_beq_eq_true h1) hd
    ·exact h1 u h
   |false=>rw [hb] at h;exact ih h
def zt (l:List Oper):Nat→Oper→Nat→Bool
 |0,o,j=>iT o j
 |n+1,o,j=>iT o j||o.after.toList.any fun e=>Region.binds .any e&&match l[e.on]? with | some o'=>zt l n o' j | none=>false
def nu (l:List Oper) (o:Oper) (j:Nat):Bool:=zt l 3 o j
def iz (l:List Oper) (listed:Array Bool):Prop:=∀ i o,l[i]? =some o→listed.getD i false=true→∀ e∈o.after,Region.binds .any e=true→listed.getD e.on false=true
theorem fO {l:List Oper} {listed:Array Bool} (hcl:iz l listed) {o:Oper} {j:Nat} (hall:∀ e∈o.after,Region.binds .any e=true→listed.getD e.on false=true) (h:nu l o j=true):listed.getD j false=true:=by
 have direct:∀ (x:Oper),(∀ e∈x.after,Region.binds .any e=true→listed.getD e.on false=true)→iT x j=true→listed.getD j false=true:=by
  intro x hx he;obtain ⟨e,he,he2⟩:=List.any_eq_true.1 he;simp only [Bool.and_eq_true,beq_iff_eq] at he2;have:=hx e (by simpa using he) he2.1
  rwa [he2.2] at this
 have all:∀ (n:Nat) (x:Oper),(∀ e∈x.after,Region.binds .any e=true→listed.getD e.on false=true)→zt l n x j=true→listed.getD j false=true:=by
  intro n
  induction n with
  |zero=>intro x hx h;exact direct x hx h
  |succ n ih=>
   intro x hx h;unfold zt at h;rcases Bool.or_eq_true_iff.1 h with h | h
   ·exact direct x hx h
   ·obtain ⟨e,he,he2⟩:=List.any_eq_true.1 h;simp only [Bool.and_eq_true] at he2;have h1:=hx e (by simpa using he) he2.1;cases ho:l[e.on]? with
    |none=>rw [ho] at he2;cases he2.2
    |some o'=>
     rw [ho] at he2;exact ih o' (hcl e.on o' ho h1) he2.2
 exact all 3 o hall h
theorem kt {l:List Oper} {listed:Array Bool} (hcl:iz l listed) {i:Nat} {o:Oper} (ho:l[i]? =some o) (hall:∀ e∈o.after,Region.binds .any e=true→listed.getD e.on false=true):iz l (listed.setIfInBounds i true):=by
 have up:∀ k,listed.getD k false=true→(listed.setIfInBounds i true).getD k false=true:=by
  intro k hk;by_cases e:i=k
  ·subst e
   have:i<listed.size:=by
    rcases Nat.lt_or_ge i listed.size with h | h
    ·exact h
    ·simp [Array.getD,show ¬ i<listed.size by omega] at hk
   simp [this]
  ·rw [getD_set_ne false e];exact hk
 intro k x hx hk e he hb;by_cases h:i=k
 ·subst h;rw [ho] at hx;cases hx;exact up _ (hall e he hb)
 ·rw [getD_set_ne false h] at hk;exact up _ (hcl k x hx hk e he hb)
theorem nU (l:List Oper) (n:Nat):iz l (Array.replicate n false):=by
 intro i o _ h;simp [Array.getD] at h
def y4 (l:List Oper) (K i t:Nat):Bool:=(List.range K).any fun j=>match l[j]? with | some oj=>(oj.dst==some t)&&nu l oj i | none=>false
def gh (l:List Oper) (K i:Nat) (o:Oper):List Nat:=(ga l K).filter fun t=>(o.looksAt l.toArray).elem t&&!y4 l K i t
def nG (P:Program) (ops:Array Oper) (n:Fr) (L:List (Nat×Value)) (I2:World→Prop) (R1 R2:Nat→Value→World→Prop) (l0:List Oper) (K:Nat) (mu:Nat):Nat→List Oper→Prop
 |_,[]=>True
 |i,o::r=>(Nat.beq i mu=false→∀ w',I2 w'→jI R2 w' (gh l0 K i o) fun M=>ay P ops n (M++L) o w' (R1 (o.dst.getD 0)))∧nG P ops n L I2 R1 R2 l0 K mu (i+1) r
theorem qt {P:Program} {ops:Array Oper} {n:Fr} {L:List (Nat×Value)} {I2:World→Prop} {R1 R2:Nat→Value→World→Prop} {l0:List Oper} {K mu:Nat}:∀ {l:List Oper} {k:Nat},nG P ops n L I2 R1 R2 l0 K mu k l→∀ (i:Nat) (o:Oper),l[i]? =some o→k+i≠mu→
 ∀ w',I2 w'→jI R2 w' (gh l0 K (k+i) o) fun M=>ay P ops n (M++L) o w' (R1 (o.dst.getD 0))
 |[],_,_,i,o,h,_=>by simp at h
 |x::r,k,⟨h1,h2⟩,0,o,h,hne=>by
  simp only [List.getElem?_cons_zero,Option.some.injEq] at h;subst h;rw [Nat.add_zero] at hne ⊢;refine h1 ?_;rw [←Bool.not_eq_true];intro hb;exact hne (Nat.eq_of_beq_eq_true hb)
 |x::r,k,⟨h1,h2⟩,i+1,o,h,hne=>by
  have:=qt h2 i o (by simpa using h) (by omega)
  rwa [show k+1+i=k+(i+1) by omega] at this
theorem pd {P:Program} {ops:Array Oper} {n:Fr} {L:List (Nat×Value)} {I2:World→Prop} {R1 R2:Nat→Value→World→Prop} {l0:List Oper} {K mu:Nat} {l:List Oper} (h:nG P ops n L I2 R1 R2 l0 K mu 0 l) (i:Nat) (o:Oper) (ho:l[i]? =some o) (hne:i≠mu)
 (w':World) (hw:I2 w'):jI R2 w' (gh l0 K i o) fun M=>ay P ops n (M++L) o w' (R1 (o.dst.getD 0)):=by
 have:=qt h i o ho (by rw [Nat.zero_add];exact hne) w' hw
 rwa [Nat.zero_add] at this
def we (P:Program) (ops:Array Oper) (n:Fr) (L:List (Nat×Value)) (o:Oper) (w:World) (post:Value→World→Prop):Prop:=
 Region.wanted o (yielded ops (mkT n.n L))=true∧((∃ v w',(execOp (ev n L) o).run P w=.ok (.value v) w'∧post v w')∨(∃ f l,(execOp (ev n L) o).run P w=.ok (.enter f (List.toArray l)) w∧Rt P f l w post))
def zJ (P:Program) (ops:Array Oper) (n:Fr) (L:List (Nat×Value)) (I1 I2:World→Prop) (R1 R2:Nat→Value→World→Prop) (l0:List Oper) (K mu:Nat):Option Oper→Prop
 |none=>True
 |some o=>∀ w',I1 w'→jI R1 w' (gh l0 K mu o) fun M=>we P ops n (M++L) o w' fun v w''=>I2 w''∧R2 (o.dst.getD 0) v w''∧∀ t u,t≠o.dst.getD 0→R1 t u w'→R2 t u w''
def eL (l:List Oper) (K j:Nat):Bool:=(List.range l.length).any fun i=>decide (K≤i)&&(match l[i]? with | some o=> !nu l o j | none=>false)
def zL (l:List Oper) (K:Nat):Bool:=
 (List.range K).all fun j=> !eL l K j||match l[j]? with
  |none=>false
  |some o=>pj o.op&&o.guard.isNone&&o.dst.isSome&&(List.range l.length).all fun i=>i==j||match l[i]? with
   |none=>false
   |some y=>(if i<K then !eL l K i else nu l y j)||o.apart l.toArray y
def lM (l:List Oper) (K:Nat):Bool:=
 let ops:=l.toArray
 let dst (i:Nat):Option Nat:=(l[i]?).bind (·.dst)
 (decide (K≤l.length)&&
 (List.range l.length).all fun i=>match l[i]? with
  |none=>false
  |some o=>
   (o.after.toList.all fun e=> !Region.binds .any e||decide (e.on<i))&&!dN o.op&&
   (if i<K then
    (match o.dst with
     |none=>false
     |some d=>(List.range K).all (fun j=>j==i||dst j != some d)&&!((o.looksAt ops).elem d))&&
    (List.range K).all (fun j=>match dst j with
     |none=>false
     |some d=> !(o.looksAt ops).elem d||y4 l K i d||(decide (j<i)&&nu l o j))
    else (List.range i).all (fun j=>nu l o j||decide (j<K))))&&zL l K
section late
variable {P:Program} {Q:Exit→Act→World→Prop} {n:Fr} {L:List (Nat×Value)} {w:World} {l:List Oper} {K:Nat} {R:Nat→Value→World→Prop}
theorem jr (hc:zL l K=true) {j:Nat} {o:Oper} (hj:j<K) (ho:l[j]? =some o) (hl:eL l K j=true) :
 pj o.op=true∧o.guard=none∧∀ i y,l[i]? =some y→i≠j→((i<K∧eL l K i=true)∨(K≤i∧nu l y j=false))→o.apart l.toArray y=true:=by
 have h:=List.all_eq_true.1 hc j (List.mem_range.2 hj);rw [hl,ho] at h;simp only [Bool.not_true,Bool.false_or,Bool.and_eq_true] at h;refine ⟨h.1.1.1,by simpa using h.1.1.2,fun i y hi hne hcase=>?_⟩;have h2:=List.all_eq_true.1 h.2 i (List.mem_range.2 (List.getElem?_eq_some_iff.1 hi).1);rw [hi] at h2;simp only [beq_iff_eq,hne,Bool.or_eq_true,false_or] at h2;rcases hcase with ⟨h3,h4⟩ | ⟨h3,h4⟩
 ·simp [h3,h4] at h2;exact h2
 ·simp [show ¬ i<K by omega,h4] at h2;exact h2
theorem lL {i j:Nat} {o:Oper} (hl:eL l K j=false) (ho:l[i]? =some o) (hi:K≤i):nu l o j=true:=by
 unfold eL at hl;have:=List.any_eq_false.1 hl i (List.mem_range.2 (List.getElem?_eq_some_iff.1 ho).1);rw [ho] at this;simpa [hi] using this
theorem oO (hQ:PQ Q) (hc:lM l K=true) {f:Nat→Value}:∀ (m k:Nat) (listed:Array Bool) (U:List Nat) (a:Act) (w':World),iz l listed→listed.toList.count false=m→listed.size=l.length→K≤k→k≤l.length→
 (∀ j,K≤j→j<l.length→listed.getD j true=decide (j<k))→U.Nodup→(∀ j,j<K→(listed.getD j true=false↔j∈U))→(∀ j∈U,j<K∧eL l K j=true∧∃ o,l[j]? =some o∧Yields P l.toArray o (f j) a)→
 wpList P l.toArray Q (l.drop k) (iS l f U a) w'→wpAny P .any l.toArray Q m listed a w':=by
 have hc1:=(Bool.and_eq_true_iff.1 hc).1;have hlate:=(Bool.and_eq_true_iff.1 hc).2;have hKl:K≤l.length:=dT_ (Bool.and_eq_true_iff.1 hc1).1;have hck:=(List.all_eq_true.1 (Bool.and_eq_true_iff.1 hc1).2);intro m
 induction m with
 |zero=>
  intro k listed U a w' hcl hcount hs hK hkl htail hn hU hUl h
  have hall:∀ j,j<l.length→listed.getD j true=true:=by
   intro j hj;have hm:listed[j]'(by omega)∈listed.toList:=by simp
   cases hb:listed[j]'(by omega) with
   |true=>simp [Array.getD,show j<listed.size by omega,hb]
   |false=>
    rw [hb] at hm;exact absurd hcount (Nat.pos_iff_ne_zero.1 (List.count_pos_iff.2 hm))
  have hU0:U=[]:=by
   rw [List.eq_nil_iff_forall_not_mem];intro j hj;have h1:=(hU j (hUl j hj).1).2 hj;rw [hall j (by have:=(hUl j hj).1;omega)] at h1;cases h1
  have hke:k=l.length:=by
   rcases Nat.lt_or_ge k l.length with hlt | hge
   ·have h1:=htail k hK hlt;rw [hall k hlt] at h1;simp at h1
   ·omega
  subst hU0 hke;refine ⟨?_,by simpa [iS,wpList] using h⟩;rw [List.eq_nil_iff_forall_not_mem];intro j hj;obtain ⟨h0,o,ho,_⟩:=mem_ready.1 hj;rw [List.getElem?_toArray] at ho;rw [hall j (List.getElem?_eq_some_iff.1 ho).1] at h0;cases h0
 |succ m ih=>
  intro k listed U a w' hcl hcount hs hK hkl htail hn hU hUl h
  have hex:∃ i,i<l.length∧listed.getD i true=false:=by
   obtain ⟨i,hi,hb⟩:=List.mem_iff_getElem.1 (List.count_pos_iff.1 (by rw [hcount];omega:0<listed.toList.count false));have hi':i<listed.size:=by simpa using hi
   exact ⟨i,by omega,by simpa [Array.getD,hi'] using hb⟩
  obtain ⟨i0,hi0,hmin⟩:=exists_least hex
  have hready:i0∈Region.ready .any l.toArray listed:=by
   refine mem_ready.2 ⟨hi0.2,l[i0]'hi0.1,by rw [List.getElem?_toArray,List.getElem?_eq_getElem hi0.1],fun e he hb=>?_⟩;have hx:=hck i0 (List.mem_range.2 hi0.1);rw [List.getElem?_eq_getElem hi0.1] at hx;simp only [Bool.and_eq_true] at hx;have he2:=List.all_eq_true.1 hx.1.1 e (by simpa using he);rw [hb] at he2;simp at he2;rw [←bP (by omega)];cases hb2:listed.getD e.on true with
   |true=>rfl
   |false=>exact absurd (hmin e.on ⟨by omega,hb2⟩) (by omega)
  refine ⟨fun h0=>(by rw [h0] at hready;cases hready),fun i hi=>?_⟩;obtain ⟨h0,o,ho,hall⟩:=mem_ready.1 hi;rw [List.getElem?_toArray] at ho;have hil:i<l.length:=(List.getElem?_eq_some_iff.1 ho).1;have hx:=hck i (List.mem_range.2 hil);rw [ho] at hx;simp only [Bool.and_eq_true] at hx;have hsel:dN o.op=false:=by simpa using hx.1.2
  have hcnt:(listed.setIfInBounds i true).toList.count false=m:=by
   have hil':i<listed.size:=by omega
   have hfalse:listed.toList[i]? =some false:=by
    rw [Array.getElem?_toList,Array.getElem?_eq_getElem hil'];simp [Array.getD,hil'] at h0;rw [h0]
   rw [Array.toList_setIfInBounds];have:=fm (l:=listed.toList) (i:=i) hfalse;omega
  by_cases hiK:i<K
  ·
   have hiU:=(hU i hiK).1 h0;obtain ⟨_,hil8,o',ho',hy⟩:=hUl i hiU;rw [ho] at ho';cases ho';obtain ⟨_,_,hap⟩:=jr hlate hiK ho hil8;refine Yields.wpOp (by rw [List.getElem?_toArray];exact ho) hy ?_;have he:a.put o.dst (f i)=a.put ((l[i]?).bind (·.dst)) (f i):=by rw [ho];rfl
   refine ih k _ (U.erase i) _ w' (kt hcl ho hall) hcnt (by simpa using hs) hK hkl (fun j h1 h2=>by rw [getD_set_ne true (by omega)];exact htail j h1 h2) (hn.erase i) (fun j hj=>?_) (fun j hj=>?_) ?_
   ·by_cases e:i=j
    ·subst e;simp [hs,hil,hn.not_mem_erase]
    ·rw [getD_set_ne true e,hU j hj];exact (List.mem_erase_of_ne (Ne.symm e)).symm
   ·have hjU:=List.mem_of_mem_erase hj;obtain ⟨h1,h2,oj,h3,h4⟩:=hUl j hjU;have hne:i≠j:=fun e=>by subst e;exact (hn.not_mem_erase) hj
    obtain ⟨_,_,hapj⟩:=jr hlate h1 h3 h2;have hxj:=hck j (List.mem_range.2 (by omega));rw [h3] at hxj;simp only [Bool.and_eq_true] at hxj;exact ⟨h1,h2,oj,h3,(oI (by simpa using hxj.1.2) (hapj i o ho hne (.inl ⟨hiK,hil8⟩))).2 h4⟩
   ·rw [he,pb U a hiU hn (fun j hj hne d hd=>?_)]
    ·exact h
    ·obtain ⟨h1,h2,oj,h3,h4⟩:=hUl j hj;have h5:=(Oper.apart_spec (hap j oj h3 hne (.inl ⟨h1,h2⟩))).2.1 d (by rw [ho] at hd;exact hd);rw [h3];exact h5
  ·
   have hik:i=k:=by
    rw [htail i (by omega) hil] at h0;have h0':k≤i:=by simpa using h0
    rcases Nat.eq_or_lt_of_le h0' with e | hlt
    ·exact e.symm
    ·exfalso;have h3:=hx.2;rw [if_neg hiK] at h3;have h4:=List.all_eq_true.1 h3 k (List.mem_range.2 hlt);simp only [show ¬ k<K by omega,decide_false,Bool.or_false] at h4;have h5:=fO hcl hall h4;rw [←bP (by omega),htail k hK (by omega)] at h5;simp at h5
   subst hik
   have hdrop:l.drop i=o::l.drop (i+1):=by
    rw [List.drop_eq_getElem_cons hil];rw [List.getElem?_eq_getElem hil] at ho;cases ho;rfl
   rw [hdrop] at h
   have hk2:wpOp P l.toArray Q i (wpList P l.toArray Q (l.drop (i+1))) (iS l f U a) w':=by
    unfold wpOp;rw [List.getElem?_toArray,ho];exact h
   have hne:∀ j∈U,j≠i:=fun j hj e=>by have:=(hUl j hj).1;omega
   have hk3:=qb hQ ho hsel U _ a hn (fun j hj=>by
    obtain ⟨h1,h2,oj,h3,h4⟩:=hUl j hj;obtain ⟨_,_,hapj⟩:=jr hlate h1 h3 h2;have hxj:=hck j (List.mem_range.2 (by omega));rw [h3] at hxj;simp only [Bool.and_eq_true] at hxj;refine ⟨oj,h3,by simpa using hxj.1.2,hapj i o ho (Ne.symm (hne j hj)) (.inr ⟨by omega,?_⟩),h4,fun j' hj' hne'=>?_⟩
    ·cases hE:nu l o j with
     |false=>rfl
     |true=>
      have h5:=fO hcl hall hE;rw [←bP (by omega),(hU j h1).2 hj] at h5;cases h5
    ·obtain ⟨h1',h2',oj',h3',_⟩:=hUl j' hj';exact ⟨oj',h3',hapj j' oj' h3' hne' (.inl ⟨h1',h2'⟩)⟩) hk2
   refine wpOp_mono (fun a' w'' hh=>?_) hk3;refine ih (i+1) _ U a' w'' (kt hcl ho hall) hcnt (by simpa using hs) (by omega) (by omega) (fun j h1 h2=>?_) hn (fun j hj=>?_) (fun j hj=>?_) hh.2
   ·by_cases e:i=j
    ·subst e;simp [hs,hil]
    ·rw [getD_set_ne true e,htail j h1 h2];have:(j<i+1)↔(j<i):=by omega
     simp [this]
   ·rw [getD_set_ne true (by omega)];exact hU j hj
   ·obtain ⟨h1,h2,oj,h3,_⟩:=hUl j hj;exact ⟨h1,h2,oj,h3,hh.1 j hj oj h3⟩
end late
section late
variable {P:Program} {Q:Exit→Act→World→Prop} {n:Fr} {L:List (Nat×Value)} {w:World} {l:List Oper} {K mu:Nat} {I1 I2:World→Prop} {R1 R:Nat→Value→World→Prop}
theorem AQ (hc:lM l K=true) {j j':Nat} {oj oj':Oper} {t:Nat} (hj:j<K) (hj':j'<K) (hoj:l[j]? =some oj) (hoj':l[j']? =some oj') (hd:oj.dst=some t) (hd':oj'.dst=some t):j=j':=by
 have hc1:=(Bool.and_eq_true_iff.1 hc).1;have hck:=(List.all_eq_true.1 (Bool.and_eq_true_iff.1 hc1).2);have hx:=hck j' (List.mem_range.2 (List.getElem?_eq_some_iff.1 hoj').1);rw [hoj'] at hx;simp only [Bool.and_eq_true] at hx;have h3:=hx.2;rw [if_pos hj'] at h3;simp only [Bool.and_eq_true] at h3;have h3a:=h3.1;rw [hd'] at h3a;simp only [Bool.and_eq_true] at h3a;have h5:=List.all_eq_true.1 h3a.1 j (List.mem_range.2 hj);rw [hoj] at h5;simpa [hd] using h5
theorem vD {i t:Nat} (h:y4 l K i t=true):∃ j oj,j<K∧l[j]? =some oj∧oj.dst=some t∧nu l oj i=true:=by
 obtain ⟨j,hj,h2⟩:=List.any_eq_true.1 h;cases hoj:l[j]? with
 |none=>rw [hoj] at h2;cases h2
 |some oj=>
  rw [hoj] at h2;simp only [Bool.and_eq_true,beq_iff_eq] at h2;exact ⟨j,oj,List.mem_range.1 hj,hoj,h2.1,h2.2⟩
theorem jL (hc:lM l K=true) {i t:Nat} {o:Oper} (hi:i<K) (ho:l[i]? =some o) (ht:t∈gh l K i o):(o.looksAt l.toArray).elem t=true∧∃ j oj,j<K∧l[j]? =some oj∧oj.dst=some t∧j<i∧nu l o j=true:=by
 obtain ⟨ht1,ht2⟩:=List.mem_filter.1 ht;simp only [Bool.and_eq_true,Bool.not_eq_true'] at ht2;obtain ⟨oj,hoj,hdj⟩:=List.mem_filterMap.1 ht1;obtain ⟨j,hj⟩:=List.mem_iff_getElem?.1 hoj;rw [List.getElem?_take] at hj;split at hj
 ·rename_i hjK;refine ⟨ht2.1,j,oj,hjK,hj,hdj,?_⟩;have hc1:=(Bool.and_eq_true_iff.1 hc).1;have hck:=(List.all_eq_true.1 (Bool.and_eq_true_iff.1 hc1).2);have hx:=hck i (List.mem_range.2 (List.getElem?_eq_some_iff.1 ho).1);rw [ho] at hx;simp only [Bool.and_eq_true] at hx;have h3:=hx.2;rw [if_pos hi] at h3;simp only [Bool.and_eq_true] at h3;have h5:=List.all_eq_true.1 h3.2 j (List.mem_range.2 hjK);rw [hj] at h5;have h6:t∈o.looksAt l.toArray:=by simpa using ht2.1
  simpa [hdj,h6,ht2.2] using h5
 ·cases hj
theorem qX (hc:lM l K=true) {listed:Array Bool} (hcl:iz l listed) (hs:listed.size=l.length) {i:Nat} {o:Oper} (_ho:l[i]? =some o) (hil:i<l.length) (h0:listed.getD i true=false) {L':List (Nat×Value)}
 (hfr:∀ t,(∀ i o,i<K→l[i]? =some o→listed.getD i true=true→o.dst≠some t)→bI L' t=bI L t):∀ t,(o.looksAt l.toArray).elem t=true→bI ((gh l K i o).map (fun d=>(d,bI L' d))++L) t=bI L' t:=by
 intro t ht;rw [j8];split
 ·rfl
 ·rename_i hne;refine (hfr t fun j oj hj hoj hlj hd=>?_).symm;have hmem:t∈ga l K:=List.mem_filterMap.2 ⟨oj,List.mem_iff_getElem?.2 ⟨j,by rw [List.getElem?_take,if_pos hj];exact hoj⟩,hd⟩;cases hb:y4 l K i t with
  |false=>
   apply hne;simp only [List.elem_eq_mem,decide_eq_true_eq];exact List.mem_filter.2 ⟨hmem,by rw [ht,hb];rfl⟩
  |true=>
   obtain ⟨j',oj',hj',hoj',hd',hdep⟩:=vD hb;have hjj:=AQ hc hj hj' hoj hoj' hd hd';subst hjj;rw [hoj] at hoj';cases hoj';have hjl:j<l.length:=(List.getElem?_eq_some_iff.1 hoj).1;have h1:=fO hcl (hcl j oj hoj (by rw [←bP (by omega)];exact hlj)) hdep;rw [←bP (by omega),h0] at h1;cases h1
theorem qx (hQ:PQ Q) (hc:lM l K=true) (hop:nG P l.toArray n L I2 R1 R l K mu 0 (l.take K)) (h12:∀ t v w,R1 t v w→R t v w) (hmuL:mu<K→eL l K mu=false)
 (hend:∀ w',I2 w'→jI R w' (ga l K) fun M=>St P l.toArray Q (l.drop K) n (M++L) w') (m:Nat) (listed:Array Bool) (L':List (Nat×Value)) (w':World) (hcl:iz l listed) (hcount:listed.toList.count false=m) (hs:listed.size=l.length)
 (htail:∀ j,K≤j→j<l.length→listed.getD j true=false) (hF:I2 w')
 (hfr:∀ t,(∀ i o,i<K→l[i]? =some o→listed.getD i true=true→o.dst≠some t)→bI L' t=bI L t)
 (hR:∀ i o d,i<K→l[i]? =some o→listed.getD i true=true→o.dst=some d→R d (bI L' d) w') (hpre:∀ i,i<K→listed.getD i true=false→eL l K i=true):wpAny P .any l.toArray Q m listed (mkA n L') w':=by
 have hc1:=(Bool.and_eq_true_iff.1 hc).1;have hlate:=(Bool.and_eq_true_iff.1 hc).2;have hKl:K≤l.length:=dT_ (Bool.and_eq_true_iff.1 hc1).1;have hck:=(List.all_eq_true.1 (Bool.and_eq_true_iff.1 hc1).2)
 have hhead:∀ i,i<K→∃ o d,l[i]? =some o∧o.dst=some d∧dN o.op=false∧(∀ j oj,j<K→j≠i→l[j]? =some oj→oj.dst≠some d):=by
  intro i hi;have hil:i<l.length:=by omega
  have hx:=hck i (List.mem_range.2 hil);rw [List.getElem?_eq_getElem hil] at hx;simp only [Bool.and_eq_true] at hx;have h3:=hx.2;rw [if_pos hi] at h3;simp only [Bool.and_eq_true] at h3;obtain ⟨h3a,h3b⟩:=h3;cases hod:(l[i]).dst with
  |none=>rw [hod] at h3a;cases h3a
  |some d=>
   rw [hod] at h3a;simp only [Bool.and_eq_true] at h3a;refine ⟨l[i],d,List.getElem?_eq_getElem hil,hod,by simpa using hx.1.2,fun j oj hj hne hoj e=>?_⟩;have h5:=List.all_eq_true.1 h3a.1 j (List.mem_range.2 hj);rw [hoj] at h5;simp [hne,e] at h5
 have hval:∀ i,i<K→listed.getD i true=false→∃ v,∀ o d,l[i]? =some o→o.dst=some d→Yields P l.toArray o v (mkA n L')∧R d v w':=by
  intro i hi hf;have hil8:=hpre i hi hf;obtain ⟨o,d,ho,hd,hsel,_⟩:=hhead i hi;obtain ⟨hk,hg,hap⟩:=jr hlate hi ho hil8
  have hfact:∀ t∈gh l K i o,R t (bI L' t) w':=by
   intro t ht;obtain ⟨ht2,j,oj,hjK,hj,hdj,hji,_⟩:=jL hc hi ho ht;refine hR j oj t hjK hj ?_ hdj;cases hb:listed.getD j true with
   |true=>rfl
   |false=>
    have h6:=hpre j hjK hb;have h7:=(Oper.apart_spec (hap j oj hj (by omega) (.inl ⟨hjK,h6⟩))).2.2 t hdj;exact absurd (by simpa using ht2) h7
  have hlooks:=qX (L:=L) hc hcl hs ho (by omega) hf hfr;have hok:=gv (bI L') _ hfact (pd hop i o (by rw [List.getElem?_take,if_pos hi];exact ho) (by intro e;rw [e,hmuL (by omega)] at hil8;cases hil8) w' hF);obtain ⟨hE,hW⟩:=fV (n:=n) (ops:=l.toArray) (o:=o) hsel hlooks;rw [hd] at hok;simp only [Option.getD_some] at hok
  have hyl:∃ v,Yields P l.toArray o v (mkA n L')∧R d v w':=by
   unfold ay at hok;rw [hE,hW] at hok;rcases hok with ⟨hw,⟨v,w'',hr,hF',hRv⟩ | ⟨f,args,hr,hcall⟩⟩ | ⟨hw,hRv⟩
   ·obtain ⟨rfl,hall⟩:=sm hk hr;refine ⟨v,.inl ⟨hw,fun w2=>?_⟩,h12 _ _ _ hRv⟩;rw [dA];exact hall w2
   ·exfalso;obtain ⟨dst,op,ty,pos,after,guard⟩:=o;cases op <;> simp only [pj,Bool.false_eq_true] at hk <;> simp only [execOp,Sem.run_pure,Sem.run_bind,Result.ok.injEq] at hr
    ·cases hr.1
    ·cases hr.1
    ·rename_i x i';cases hx:ev n L' x <;> simp only [hx,Instr.extract] at hr <;> (try (simp at hr;done))
     rename_i vs;cases hv:vs[i']? <;> simp [hv] at hr
   ·exact ⟨undef,.inr ⟨hw,rfl⟩,h12 _ _ _ hRv⟩
  obtain ⟨v,hv1,hv2⟩:=hyl;refine ⟨v,fun o' d' ho' hd'=>?_⟩;rw [ho] at ho';cases ho';rw [hd] at hd';cases hd';exact ⟨hv1,hv2⟩
 obtain ⟨f,hf⟩:∃ f:Nat→Value,∀ i,i<K→listed.getD i true=false→∀ o d,l[i]? =some o→o.dst=some d→Yields P l.toArray o (f i) (mkA n L')∧R d (f i) w':=by
  refine ⟨fun i=>open Classical in if h:∃ v,∀ o d,l[i]? =some o→o.dst=some d→Yields P l.toArray o v (mkA n L')∧R d v w' then h.choose else undef,fun i hi hl=>?_⟩;have h:=hval i hi hl;simp only [dif_pos h];exact h.choose_spec
 have hUm:∀ i,i∈(List.range K).filter (fun i=> !listed.getD i true)↔i<K∧listed.getD i true=false:=fun i=>by
  rw [List.mem_filter,List.mem_range];simp
 obtain ⟨U,hU,hUn⟩:∃ U:List Nat,(∀ i,i∈U↔i<K∧listed.getD i true=false)∧U.Nodup:=⟨_,hUm,List.nodup_range.sublist (List.filter_sublist ..)⟩;have hbind:∀ {i:Nat} {o:Oper},l[i]? =some o→(l[i]?).bind (·.dst)=o.dst:=fun h=>by rw [h];rfl
 have hRall:∀ d∈ga l K,R d (bI ((U.filterMap fun i=>((l[i]?).bind (·.dst)).map fun d=>(d,f i))++L') d) w':=by
  intro d hd;obtain ⟨o,ho,hod⟩:=List.mem_filterMap.1 hd;obtain ⟨i,hi⟩:=List.mem_iff_getElem?.1 ho;rw [List.getElem?_take] at hi;split at hi
  ·rename_i hiK;obtain ⟨o',d',ho',hd',_,hdist⟩:=hhead i hiK;rw [hi] at ho';cases ho';rw [hod] at hd';cases hd'
   have hne:∀ j∈U,j≠i→(l[j]?).bind (·.dst)≠some d:=fun j hj hji=>by
    have hjK:=((hU j).1 hj).1;obtain ⟨oj,dj,hoj,_⟩:=hhead j hjK;rw [hbind hoj];exact hdist j oj hjK hji hoj
   cases hb:listed.getD i true with
   |true=>
    rw [i_ U fun j hj=>hne j hj (fun e=>by subst e;have:=((hU j).1 hj).2;rw [hb] at this;cases this)];exact hR i o d hiK hi hb hod
   |false=>
    rw [kr U ((hU i).2 ⟨hiK,hb⟩) ((hbind hi).trans hod) hne];exact (hf i hiK hb o d hi hod).2
  ·cases hi
 have he:=gv _ (ga l K) hRall (hend w' hF)
 have hL:mkA n ((ga l K).map (fun d=>(d,bI ((U.filterMap fun i=>((l[i]?).bind (·.dst)).map fun d=>(d,f i))++L') d))++L)=iS l f U (mkA n L'):=by
  rw [o_];refine ik fun t _=>?_
  rw [j8];split
  ·rfl
  ·rename_i hne
   have hnd:∀ i,i<K→∀ o,l[i]? =some o→o.dst≠some t:=fun i hi o ho hod=>hne (by
    simp only [List.elem_eq_mem,decide_eq_true_eq];exact List.mem_filterMap.2 ⟨o,List.mem_iff_getElem?.2 ⟨i,by rw [List.getElem?_take,if_pos hi];exact ho⟩,hod⟩)
   rw [i_ U fun j hj=>by
    have hjK:=((hU j).1 hj).1;obtain ⟨oj,dj,hoj,_⟩:=hhead j hjK;rw [hbind hoj];exact hnd j hjK oj hoj]
   exact (hfr t fun i o hi ho _ hod=>hnd i hi o ho hod).symm
 replace he:=he.out;rw [hL] at he;refine oO hQ hc m K listed U _ w' hcl hcount hs (Nat.le_refl _) hKl (fun j h1 h2=>by rw [htail j h1 h2];simp [h1]) hUn (fun j hj=>⟨fun h=>(hU j).2 ⟨hj,h⟩,fun h=>((hU j).1 h).2⟩) (fun j hj=>?_) he;obtain ⟨h1,h2⟩:=(hU j).1 hj;obtain ⟨oj,dj,hoj,hdj,_⟩:=hhead j h1;exact ⟨h1,hpre j h1 h2,oj,hoj,(hf j h1 h2 oj dj hoj hdj).1⟩
theorem y8 (hQ:PQ Q) (hc:lM l K=true) (hm1:∀ w1 w2,ah w1 w2→I1 w1→I1 w2) (hm2:∀ w1 w2,ah w1 w2→I2 w1→I2 w2) (hmono1:∀ t v w1 w2,ah w1 w2→R1 t v w1→R1 t v w2) (hmono:∀ t v w1 w2,ah w1 w2→R t v w1→R t v w2)
 (hop:nG P l.toArray n L I2 R1 R l K mu 0 (l.take K)) (h12:∀ t v w,R1 t v w→R t v w) (hmuL:mu<K→eL l K mu=false) (hmu:zJ P l.toArray n L I1 I2 R1 R l K mu l[mu]?)
 (hend:∀ w',I2 w'→jI R w' (ga l K) fun M=>St P l.toArray Q (l.drop K) n (M++L) w') :
 ∀ (m:Nat) (listed:Array Bool) (L':List (Nat×Value)) (w':World),iz l listed→listed.toList.count false=m→listed.size=l.length→(∀ j,K≤j→j<l.length→listed.getD j true=false)→I2 w'→(listed.getD mu true=false→I1 w')→
  (∀ t,(∀ i o,i<K→l[i]? =some o→listed.getD i true=true→o.dst≠some t)→bI L' t=bI L t)→
  (∀ i o d,i<K→l[i]? =some o→listed.getD i true=true→o.dst=some d→R d (bI L' d) w')→(listed.getD mu true=false→∀ i o d,i<K→l[i]? =some o→listed.getD i true=true→o.dst=some d→R1 d (bI L' d) w')→wpAny P .any l.toArray Q m listed (mkA n L') w':=by
 have hc1:=(Bool.and_eq_true_iff.1 hc).1;have hlate:=(Bool.and_eq_true_iff.1 hc).2;have hKl:K≤l.length:=dT_ (Bool.and_eq_true_iff.1 hc1).1;have hck:=(List.all_eq_true.1 (Bool.and_eq_true_iff.1 hc1).2);intro m
 induction m with
 |zero=>
  intro listed L' w' hcl hcount hs htail hF hF1 hfr hR hR1
  exact qx hQ hc hop h12 hmuL hend 0 listed L' w' hcl hcount hs htail hF hfr hR (fun i hi h=>by
   have hm:listed[i]'(by omega)∈listed.toList:=by simp
   have hb:listed[i]'(by omega)=false:=by simpa [Array.getD,show i<listed.size by omega] using h
   rw [hb] at hm;exact absurd hcount (Nat.pos_iff_ne_zero.1 (List.count_pos_iff.2 hm)))
 |succ m ih=>
  intro listed L' w' hcl hcount hs htail hF hF1 hfr hR hR1;by_cases hpre:∀ i,i<K→listed.getD i true=false→eL l K i=true
  ·exact qx hQ hc hop h12 hmuL hend (m+1) listed L' w' hcl hcount hs htail hF hfr hR hpre
  ·
   have hn0:∃ i,i<K∧listed.getD i true=false∧eL l K i=false:=by
    refine Classical.byContradiction fun hno=>hpre fun i hi hf=>?_
    cases hb:eL l K i with
    |true=>rfl
    |false=>exact absurd ⟨i,hi,hf,hb⟩ hno
   obtain ⟨n0,hn0⟩:=hn0;obtain ⟨i0,hi0,hmin⟩:=exists_least (p:=fun i=>i<K∧listed.getD i true=false) ⟨n0,hn0.1,hn0.2.1⟩;have hi0l:i0<l.length:=by omega
   have hready:i0∈Region.ready .any l.toArray listed:=by
    refine mem_ready.2 ⟨hi0.2,l[i0],by rw [List.getElem?_toArray,List.getElem?_eq_getElem hi0l],fun e he hb=>?_⟩;have hx:=hck i0 (List.mem_range.2 hi0l);rw [List.getElem?_eq_getElem hi0l] at hx;simp only [Bool.and_eq_true] at hx;have he2:=List.all_eq_true.1 hx.1.1 e (by simpa using he);rw [hb] at he2;simp at he2;rw [←bP (by omega)];cases hb2:listed.getD e.on true with
    |true=>rfl
    |false=>exact absurd (hmin e.on ⟨by omega,hb2⟩) (by omega)
   refine ⟨fun h0=>(by rw [h0] at hready;cases hready),fun i hi=>?_⟩;obtain ⟨h0,o,ho,hall⟩:=mem_ready.1 hi;rw [List.getElem?_toArray] at ho;have hil:i<l.length:=(List.getElem?_eq_some_iff.1 ho).1;have hx:=hck i (List.mem_range.2 hil);rw [ho] at hx;simp only [Bool.and_eq_true] at hx
   have hiK:i<K:=by
    rcases Nat.lt_or_ge i K with h | h
    ·exact h
    ·exfalso;have h5:=fO hcl hall (lL hn0.2.2 ho h);rw [←bP (by omega),hn0.2.1] at h5;cases h5
   have h3:=hx.2;rw [if_pos hiK] at h3;simp only [Bool.and_eq_true] at h3;obtain ⟨h3a,h3b⟩:=h3;cases hod:o.dst with
   |none=>rw [hod] at h3a;cases h3a
   |some d=>
    rw [hod] at h3a;simp only [Bool.and_eq_true] at h3a;have hlooks:=qX (L:=L) hc hcl hs ho hil h0 hfr
    have hfactG:∀ (RR:Nat→Value→World→Prop),(∀ i o d,i<K→l[i]? =some o→listed.getD i true=true→o.dst=some d→RR d (bI L' d) w')→∀ t∈gh l K i o,RR t (bI L' t) w':=by
     intro RR hRR t ht;obtain ⟨_,j,oj,hjK,hj,hd,_,hdep⟩:=jL hc hiK ho ht;have h6:=fO hcl hall hdep;exact hRR j oj t hjK hj (by rw [bP (by omega)];exact h6) hd
    have hsel:dN o.op=false:=by simpa using hx.1.2
    obtain ⟨hE,hW⟩:=fV (n:=n) (ops:=l.toArray) (o:=o) hsel hlooks
    have next:∀ v w'',I2 w''→(i≠mu→listed.getD mu true=false→I1 w'')→R d v w''→(i≠mu→R1 d v w'')→(∀ t u,t≠d→R t u w'→(i=mu→R1 t u w')→R t u w'')→(i≠mu→∀ t u,R1 t u w'→R1 t u w'')→wpAny P .any l.toArray Q m (listed.setIfInBounds i true) ((mkA n L').put (some d) v) w'':=by
     intro v w'' hI2' hI1' hRv hR1v hst hst1;rw [fN]
     have hne:∀ j oj d',j<K→l[j]? =some oj→j≠i→oj.dst=some d'→d'≠d:=by
      intro j oj d' hj hoj hji hd e;have h5:=List.all_eq_true.1 h3a.1 j (List.mem_range.2 hj);rw [hoj] at h5;simp [hji,hd,e] at h5
     refine ih _ _ w'' (kt hcl ho hall) ?_ (by simpa using hs) (fun j hj1 hj2=>?_) hI2' (fun hml=>?_) (fun t ht=>?_) (fun j oj d' hj hoj hlj hd=>?_) (fun hml j oj d' hj hoj hlj hd=>?_)
     ·have hil':i<listed.size:=by omega
      have hfalse:listed.toList[i]? =some false:=by
       rw [Array.getElem?_toList,Array.getElem?_eq_getElem hil'];simp [Array.getD,hil'] at h0;rw [h0]
      rw [Array.toList_setIfInBounds];have:=fm (l:=listed.toList) (i:=i) hfalse;omega
     ·rw [getD_set_ne true (by omega)];exact htail j hj1 hj2
     ·have him:i≠mu:=fun e=>by subst e;simp [show i<listed.size by omega] at hml
      rw [getD_set_ne true him] at hml;exact hI1' him hml
     ·have htd:t≠d:=fun e=>ht i o hiK ho (by simp [show i<listed.size by omega]) (by rw [hod,e])
      rw [cJ,if_neg htd];refine hfr t fun j oj hj hoj hlj=>ht j oj hj hoj ?_
      by_cases e:i=j
      ·subst e;rw [h0] at hlj;cases hlj
      ·rw [getD_set_ne true e];exact hlj
     ·rw [cJ];by_cases e:j=i
      ·subst e;rw [ho] at hoj;cases hoj;rw [hod] at hd;cases hd;rw [if_pos rfl];exact hRv
      ·have hdd:=hne j oj d' hj hoj e hd;rw [if_neg hdd];rw [getD_set_ne true (Ne.symm e)] at hlj;refine hst _ _ hdd (hR j oj d' hj hoj hlj hd) (fun e2=>?_);subst e2;exact hR1 h0 j oj d' hj hoj hlj hd
     ·have him:i≠mu:=fun e=>by subst e;simp [show i<listed.size by omega] at hml
      rw [getD_set_ne true him] at hml;rw [cJ];by_cases e:j=i
      ·subst e;rw [ho] at hoj;cases hoj;rw [hod] at hd;cases hd;rw [if_pos rfl];exact hR1v him
      ·rw [if_neg (hne j oj d' hj hoj e hd)];rw [getD_set_ne true (Ne.symm e)] at hlj;exact hst1 him _ _ (hR1 hml j oj d' hj hoj hlj hd)
    unfold wpOp;rw [List.getElem?_toArray,ho];show if Region.wanted o (yielded l.toArray (mkT n.n L'))=true then _ else _
    by_cases him:i=mu
    ·subst him;rw [ho] at hmu;have hok:=gv (bI L') _ (hfactG R1 (hR1 h0)) (hmu w' (hF1 h0));rw [hod] at hok;simp only [Option.getD_some] at hok;unfold we at hok;rw [hE,hW] at hok;obtain ⟨hw,⟨v,w'',hr,hI,hRv,hst⟩ | ⟨f,args,hr,hcall⟩⟩:=hok
     ·rw [if_pos hw];refine .inl ?_;unfold Oper.wp;rw [dA,hr,Oper.upon_value,hod];exact next v w'' hI (fun h=>absurd rfl h) hRv (fun h=>absurd rfl h) (fun t u ht _ h1=>hst t u ht (h1 rfl)) (fun h=>absurd rfl h)
     ·rw [if_pos hw];refine .inl ?_;unfold Oper.wp;rw [dA,hr,Oper.upon_enter,hod];refine Calls.mono hcall fun e w'' ⟨v,he,hI,hRv,hst⟩=>?_
      subst he;exact next v w'' hI (fun h=>absurd rfl h) hRv (fun h=>absurd rfl h) (fun t u ht _ h1=>hst t u ht (h1 rfl)) (fun h=>absurd rfl h)
    ·have hok:=gv (bI L') _ (hfactG R hR) (pd hop i o (by rw [List.getElem?_take,if_pos hiK];exact ho) him w' hF);rw [hod] at hok;simp only [Option.getD_some] at hok;unfold ay at hok;rw [hE,hW] at hok
     have next':∀ v w'',ah w' w''→R1 d v w''→wpAny P .any l.toArray Q m (listed.setIfInBounds i true) ((mkA n L').put (some d) v) w'':=fun v w'' hF' hRv=>
      next v w'' (hm2 _ _ hF' hF) (fun _ h=>hm1 _ _ hF' (hF1 h)) (h12 _ _ _ hRv) (fun _=>hRv) (fun t u _ h _=>hmono _ _ _ _ hF' h) (fun _ t u h=>hmono1 _ _ _ _ hF' h)
     rcases hok with ⟨hw,⟨v,w'',hr,hF',hRv⟩ | ⟨f,args,hr,hcall⟩⟩ | ⟨hw,hRv⟩
     ·rw [if_pos hw];refine .inl ?_;unfold Oper.wp;rw [dA,hr,Oper.upon_value,hod];exact next' v w'' hF' hRv
     ·rw [if_pos hw];refine .inl ?_;unfold Oper.wp;rw [dA,hr,Oper.upon_enter,hod];refine Calls.mono hcall fun e w'' ⟨v,he,hF',hRv⟩=>?_
      subst he;exact next' v w'' hF' hRv
     ·rw [if_neg (by rw [hw];simp),hod];exact next' undef w' ah.rfl_ hRv
theorem bY {id:Nat} (K:Nat) (RL:List (Nat×(Value→World→Prop))) (hQ:PQ Q) (hm:P.follows .mixedOrders=true) (hc:lM l K=true) (hmono:qJ RL)
 (hop:nG P l.toArray n L (ah w) (h_ RL) (h_ RL) l K l.length 0 (l.take K)) (hend:∀ w',ah w w'→jI (h_ RL) w' (ga l K) fun M=>St P l.toArray Q (l.drop K) n (M++L) w'):Cd P (.region id l.toArray true) Q n L w:=by
 refine ⟨wp_region_any hm ?_⟩;have hKl:K≤l.length:=dT_ (Bool.and_eq_true_iff.1 (Bool.and_eq_true_iff.1 hc).1).1
 have:=y8 (Q:=Q) (mu:=l.length) (I1:=ah w) (I2:=ah w) (R1:=h_ RL) hQ hc (fun _ _ hF h=>h.next hF) (fun _ _ hF h=>h.next hF) (il hmono) (il hmono) hop (fun _ _ _ h=>h) (fun h=>absurd h (by omega)) (by simp [zJ]) hend l.length (Array.replicate l.length false) L { w with drawn:=w.drawn+1 } (nU l _) (by simp) (by simp)
  (fun j _ hj=>by simp [Array.getD,hj]) ah.rfl_.d1 (fun _=>ah.rfl_.d1) (fun _ _=>rfl) (fun i o d hi _ hl=>by
   have:i<l.length:=by omega
   simp [Array.getD,this] at hl) (fun _ i o d hi _ hl=>by
   have:i<l.length:=by omega
   simp [Array.getD,this] at hl)
 simpa using this
end late
end Go.Proofs.YtkpooenofjdpmaaGreat
namespace Go.Proofs.YtkpooenofjdpmaaGreat
open Go.Proofs.Tryz (prog)
open Go.RowKit
theorem eN {w:World} {bs e s n c m:Nat} {A:Option Addr} {l:List Value} (h:w.ownsRow bs e s (.slice A n c) m l):∀ k,A.map (·.block)=some k→bs≤k∧k<w.heap.size:=fun k hk=>h.lt k (by rw [←hk];cases A <;> rfl)
end Go.Proofs.YtkpooenofjdpmaaGreat
namespace Go.Proofs.YtkpooenofjdpmaaGreat
open Go.Proofs.Tryz (prog)
open Go.RowKit
section
variable {P:Program} {ops:Array Oper} {Q:Exit→Act→World→Prop} {rest:List Oper} {n:Fr} {L:List (Nat×Value)} {w:World} {ty:TypeId} {pos:String} {after:Array Edge} {d:Nat} {x:Operand}
theorem rZ {ρ:Operand→Value} {f:FuncId} {l1 l2:List Operand}:RO P ρ (.makeFunc (.func f) l1.toArray l2.toArray) w (.func (.func f) (l1.map ρ).toArray (l2.map ρ).toArray) w:=fun _ _ _ _ _=>by
 simp [execOp,Instr.makeFunc]
end
end Go.Proofs.YtkpooenofjdpmaaGreat
namespace Go.Proofs.YtkpooenofjdpmaaGreat
open Go.Proofs.Tryz (prog)
open Go.RowKit Go.ChangeShapes Go.WideShapes Go.ChangeAt
theorem gG {P:Program} {ops:Array Oper} {n:Fr} {L:List (Nat×Value)} {w:World} {op:Op} {ty:TypeId} {pos:String} {after:Array Edge} {d:Option Nat} {R:Value→World→Prop} {j:Nat} {b:Bool} (hg:jJ ops n L j=undef) (hR:R undef w):ay P ops n L ⟨d,op,ty,pos,after,some (j,b)⟩ w R:=
 .inr ⟨by show (yielded ops (mkT n.n L) j==some b)=false;rw [lI hg];rfl,hR⟩
theorem eS {w:World} {base e s n c m g t:Nat} {A:Option Addr} {xs:List Value} {cs:Array Value} (h:w.ownsRow base e s (.slice A n c) m xs) (hb:Blk w g t cs) (hne:t≠e):∀ k,A.map (·.block)=some k→k≠g:=by
 rintro k hk rfl;rcases h.2 with ⟨h0,_⟩ | ⟨g',cap,cur,hv,hg,hh,r⟩
 ·simp only [Value.slice.injEq] at h0;rw [h0.1] at hk;cases hk
 ·simp only [Value.slice.injEq] at hv;rw [hv.1] at hk;simp only [Option.map_some,Option.some.injEq] at hk;subst hk;unfold Blk at hb;rw [hh] at hb;simp only [Option.some.injEq,Obj.cells.injEq] at hb;exact hne hb.2.1.symm
theorem eY {w w':World} {base e s n c g:Nat} {A:Option Addr} {xs:List Value} (h:w.ownsRow base e s (.slice A n c) n xs) (o:e_ g w w') (hne:∀ k,A.map (·.block)=some k→k≠g):w'.ownsRow base e s (.slice A n c) n xs:=by
 refine ⟨h.1,?_⟩;rcases h.2 with h2 | ⟨g',cap,cur,hv,hg,hh,r⟩
 ·exact .inl h2
 ·refine .inr ⟨g',cap,cur,hv,hg,?_,r⟩;simp only [Value.slice.injEq] at hv;rw [o.block g' (hne g' (by rw [hv.1];rfl))];exact hh
theorem ec {w:World} {base base' size n:Nat} {e:TypeId} {v:Value} {xs:List Value} (h:w.ownsRow base e size v n xs) (hb:base'≤base):w.ownsRow base' e size v n xs:=by
 refine ⟨h.1,?_⟩;rcases h.2 with h0 | ⟨g,cap,cur,hv,hg,r⟩
 ·exact .inl h0
 ·exact .inr ⟨g,cap,cur,hv,by omega,r⟩
theorem rL {H:Type} {enc:TypeId×Value→H} {F:FuncId} {T:TypeId} (t u:Ty) (hf:(Ty.pr t u).fits prog (.inl T)=true)
 (h:∀ (cs:Array Value) (x:(Ty.pr t u).den) (w:World),cs.size=(Ty.pr t u).size→(Ty.pr t u).At w (fun j=>cs[j]?) x→Rt prog F [.agg cs] w fun v w'=>v=.bool true∧ah w w')
 (W:World) (base:Nat) (v:Value) (d:DataW H) (p:List MemPlace) (hok:Value.okWide prog W .any base T v) (ht:DataW.Trod enc prog W 0 (fun _=>true) true T v d p) (hsz:∀ n∈d.weights prog T,n≤140737488351232) :
 Calls prog F #[v] W fun e W'=>e=.returned (.bool true)∧ah W W':=by
 obtain ⟨cs,x,rfl,hs,ha⟩:=AH t u hf hok ht hsz;exact Rt.to (h cs x W hs ha)
end Go.Proofs.YtkpooenofjdpmaaGreat
namespace Go.Proofs.YtkpooenofjdpmaaGreat
open Go.Proofs.Tryz (prog)
open Go.RowKit
section
variable {α:Type} {f:α→List Value} {s:Nat}
theorem mJ (hf:∀ x,(f x).length=s):∀ (L:List α),(L.flatMap f).length=L.length*s
 |[]=>by simp
 |x::r=>by rw [List.flatMap_cons,List.length_append,hf,mJ hf r,List.length_cons,Nat.succ_mul];omega
theorem qz (hf:∀ x,(f x).length=s):∀ (L:List α) (k:Nat),(L.flatMap f).take (k*s)=(L.take k).flatMap f
 |[],k=>by simp
 |x::r,0=>by simp
 |x::r,k+1=>by
  rw [List.flatMap_cons,List.take_succ_cons,List.flatMap_cons,←qz hf r k,List.take_append,hf];rw [show (k+1)*s-s=k*s by rw [Nat.succ_mul];omega,List.take_of_length_le (by rw [hf,Nat.succ_mul];omega)]
theorem nt (hf:∀ x,(f x).length=s):∀ (L:List α) (k:Nat),(L.flatMap f).drop (k*s)=(L.drop k).flatMap f
 |[],k=>by simp
 |x::r,0=>by simp
 |x::r,k+1=>by
  rw [List.flatMap_cons,List.drop_succ_cons,←nt hf r k,List.drop_append,hf];rw [show (k+1)*s-s=k*s by rw [Nat.succ_mul];omega,List.drop_of_length_le (by rw [hf,Nat.succ_mul];omega),List.nil_append]
theorem uT (hf:∀ x,(f x).length=s) (L:List α) (i:Nat) (hi:i<L.length) (j:Nat) (hj:j<s):(L.flatMap f)[i*s+j]? =(f L[i])[j]? :=by
 have h1:((L.flatMap f).drop (i*s))[j]? =(L.flatMap f)[i*s+j]? :=by rw [List.getElem?_drop]
 rw [←h1,nt hf,List.drop_eq_getElem_cons hi,List.flatMap_cons,List.getElem?_append_left (by rw [hf];exact hj)]
theorem xU {L:List α} (h:∀ x∈L,∀ u∈f x,u.oneCell'=true):∀ u∈L.flatMap f,u.oneCell'=true:=fun u hu=>by
 obtain ⟨x,hx,hu⟩:=List.mem_flatMap.1 hu;exact h x hx u hu
def iE (s:Nat) (f:α→List Value) (w:World) (A:Option Addr) (L:List α):Prop:=0<L.length→∃ b o,A=some ⟨b,o,none⟩∧∀ i (h:i<L.length),w.rangeAt b (o+i*s) (f L[i])
theorem iE.from_ {w w':World} {A:Option Addr} {L:List α} (h:iE s f w A L) (hF:ah w w'):iE s f w' A L:=fun h0=>
 let ⟨b,o,hA,hc⟩:=h h0
 ⟨b,o,hA,fun i hi=>dT hF (hc i hi)⟩
theorem iE.flat (hf:∀ x,(f x).length=s) {w:World} {A:Option Addr} {L:List α} (h:iE s f w A L):0<L.length→∃ b o,A=some ⟨b,o,none⟩∧w.rangeAt b o (L.flatMap f):=fun h0=>by
 obtain ⟨b,o,hA,hc⟩:=h h0;refine ⟨b,o,hA,fun j v hv=>?_⟩
 have hlt:j<L.length*s:=by
  rw [←mJ hf];rcases Nat.lt_or_ge j (L.flatMap f).length with a | a
  ·exact a
  ·rw [List.getElem?_eq_none a] at hv;cases hv
 have hs:0<s:=by
  rcases Nat.eq_zero_or_pos s with h | h
  ·subst h;omega
  ·exact h
 have hi:j/s<L.length:=by rw [Nat.div_lt_iff_lt_mul hs];exact hlt
 have hj:j/s*s+j%s=j:=by rw [Nat.mul_comm];exact Nat.div_add_mod j s
 rw [←hj,uT hf L _ hi _ (Nat.mod_lt _ hs)] at hv;have:=hc _ hi _ v hv
 rwa [Nat.add_assoc,hj] at this
theorem iE.own (hf:∀ x,(f x).length=s) (hs:0<s) {w:World} {base e n c:Nat} {A:Option Addr} {L:List α} (h:w.ownsRow base e s (.slice A n c) n (L.flatMap f)):L.length=n∧iE s f w A L:=by
 have hn:L.length=n:=by
  have:=h.1;rw [mJ hf] at this;exact Nat.eq_of_mul_eq_mul_right hs this
 refine ⟨hn,fun h0=>?_⟩;obtain ⟨g,rfl⟩:=ft h (by omega);refine ⟨g,0,rfl,fun i hi j v hv=>?_⟩
 have hj:j<s:=by
  rw [←hf L[i]];rcases Nat.lt_or_ge j (f L[i]).length with a | a
  ·exact a
  ·rw [List.getElem?_eq_none a] at hv;cases hv
 have hlt:i*s+j<n*s:=by
  have:(i+1)*s≤n*s:=Nat.mul_le_mul_right s (by omega);rw [Nat.succ_mul] at this;omega
 rw [Nat.zero_add,h.cellAt _ hlt,uT hf L i hi j hj];exact hv
end
theorem oC {w:World} {base e size n c:Nat} {A:Option Addr} {xs:List Value} (h:w.ownsRow base e size (.slice A n c) n xs) (hn:0<n) :
 ∃ g cur,A=some ⟨g,0,none⟩∧base≤g∧Blk w g e (List.toArray cur)∧n≤c∧c≤maxLen∧cur.length=c*size∧cur.take (n*size)=xs:=by
 rcases h.2 with ⟨_,h0⟩ | ⟨g,cap,cur,hv,hg,hh,h1,h2,h3,h4⟩
 ·omega
 ·simp only [Value.slice.injEq,true_and] at hv;obtain ⟨rfl,rfl⟩:=hv;exact ⟨g,cur.toList,rfl,hg,by simpa [Blk] using hh,h1,h2,by simpa using h3,h4⟩
theorem tw {w:World} {base e size n c g:Nat} {cur xs:List Value} (hg:base≤g) (hb:Blk w g e cur.toArray) (h1:n≤c) (h2:c≤maxLen) (h3:cur.length=c*size) (h4:cur.take (n*size)=xs) :
 w.ownsRow base e size (.slice (some ⟨g,0,none⟩) n c) n xs:=by
 refine ⟨?_,.inr ⟨g,c,cur.toArray,rfl,hg,hb,h1,h2,by simpa using h3,by simpa using h4⟩⟩;rw [←h4,List.length_take,h3];exact Nat.min_eq_left (Nat.mul_le_mul_right _ h1)
theorem xp (cs vs:List Value) (o:Nat) (h:o+vs.length≤cs.length):(jo cs o vs).length=cs.length:=by simp [jo];omega
theorem vC (cs vs:List Value) (o k:Nat) (h:o+vs.length≤k) (hk:k≤cs.length):(jo cs o vs).take k=jo (cs.take k) o vs:=by
 unfold jo;rw [List.take_append,List.take_of_length_le (by simp;omega)];rw [List.take_take,Nat.min_eq_left (by omega),List.drop_take]
 congr 2
 simp;omega
theorem AW (cs:List Value) (o:Nat):jo cs o []=cs:=by simp [jo]
end Go.Proofs.YtkpooenofjdpmaaGreat
namespace Go.Proofs.YtkpooenofjdpmaaGreat
open Go.Proofs.Tryz (prog)
open Go.RowKit
section
variable {P:Program} {ops:Array Oper} {Q:Exit→Act→World→Prop} {rest:List Oper} {n:Fr} {L:List (Nat×Value)} {w:World} {ty:TypeId} {pos:String} {after:Array Edge} {d:Nat} {t:TypeId} {x s:Operand}
theorem yQ {ρ:Operand→Value} {e size by_:Nat} {z:Value} (hq:kD P t=some (e,size,by_,z)):RO P ρ (.buildSlice t 0 #[]) w (.slice (some ⟨w.heap.size,0,none⟩) 0 0) (w.alloc (.cells #[] e)):=fun _ _ _ _ _=>by
 obtain ⟨i,hu,hi,hs,_,hz⟩:=qY hq;simp [execOp,Instr.buildSlice,run_underlying hu,sizeOf,typeInfo,hi,Instr.fill,newRow];have:(Array.range 0)=#[]:=by simp [Array.range]
 rw [this,Array.map_empty]
theorem uE {e size by_:Nat} {z:Value} (hq:kD P t=some (e,size,by_,z)) (base:Nat) (hbs:base≤w.heap.size) (k:∀ g w',ah w w'→g=w.heap.size→w'.ownsRow base e size (.slice (some ⟨g,0,none⟩) 0 0) 0 []→St P ops Q rest n ((d,.slice (some ⟨g,0,none⟩) 0 0)::L) w') :
 St P ops Q (⟨some d,.buildSlice t 0 #[],ty,pos,after,none⟩::rest) n L w:=
 aa (yQ hq) (k _ _ (ah.rfl_.new _) rfl ⟨by simp,.inr ⟨w.heap.size,0,#[],rfl,hbs,heap_alloc_new w _,Nat.le_refl _,by decide,by simp,by simp⟩⟩)
theorem o3 {ρ:Operand→Value} {e yt:TypeId} {y:Operand} {a:Option Addr} {m c:Nat} (ht:P.underlying t=some (.slice e)) (hx:ρ x=.slice a m c) (hy:ρ y=.slice none 0 0):RO P ρ (.binOp .eql t x y yt) w (.bool a.isNone) w:=
 nd hx hy (by unfold eqGuard;cases a <;> rfl) (run_eql_slice_nil w t e a m c ht)
end
theorem xo {w w':World} {base e size n c g o:Nat} {xs vs:List Value} (h:w.ownsRow base e size (.slice (some ⟨g,0,none⟩) n c) n xs) (hn:0<n) (hv:o+vs.length≤n*size) (hb:∀ cur,Blk w g e (List.toArray cur)→o+vs.length≤cur.length→Blk w' g e (jo cur o vs).toArray) :
 w'.ownsRow base e size (.slice (some ⟨g,0,none⟩) n c) n (jo xs o vs):=by
 obtain ⟨g',cur,hA,hg,hbk,h1,h2,h3,h4⟩:=oC h hn;simp only [Option.some.injEq,Addr.mk.injEq,and_true] at hA;subst hA;have hle:n*size≤cur.length:=by rw [h3];exact Nat.mul_le_mul_right _ h1
 refine tw hg (hb cur hbk (by omega)) h1 h2 ?_ ?_
 ·rw [xp _ _ _ (by omega),h3]
 ·rw [vC _ _ _ _ hv hle,h4]
section
variable {P:Program} {ops:Array Oper} {Q:Exit→Act→World→Prop} {rest:List Oper} {n:Fr} {L:List (Nat×Value)} {w:World} {ty:TypeId} {pos:String} {after:Array Edge} {t:TypeId} {x y:Operand}
theorem lU {base e size m c g o:Nat} {xs vs:List Value} (ht:ef P t=some vs.length) (hx:ev n L x=.pointer (some ⟨g,o,none⟩)) (hy:ev n L y=.agg vs.toArray) (h1:∀ v∈vs,v.oneCell'=true)
 (ho:w.ownsRow base e size (.slice (some ⟨g,0,none⟩) m c) m xs) (hm:0<m) (hi:o+vs.length≤m*size)
 (k:∀ w',e_ g w w'→w'.ownsRow base e size (.slice (some ⟨g,0,none⟩) m c) m (jo xs o vs)→St P ops Q rest n L w'):St P ops Q (⟨none,.store t x y,ty,pos,after,none⟩::rest) n L w:=by
 obtain ⟨g',cur,hA,hg,hbk,h2,h3,h4,h5⟩:=oC ho hm;simp only [Option.some.injEq,Addr.mk.injEq,and_true] at hA;subst hA;have hle:m*size≤cur.length:=by rw [h4];exact Nat.mul_le_mul_right _ h2
 refine kO (nb ht hx hy h1 (hbk.there o vs.length (by simp;omega))) (k _ (e_.sets vs o w) ?_);exact xo ho hm hi fun cur' hb' hl=>Blk.sets vs o hb' hl
theorem jh {base e size m c g o:Nat} {xs:List Value} {v:Value} (ht:ef P t=some 1) (hx:ev n L x=.pointer (some ⟨g,o,none⟩)) (hy:ev n L y=v) (h1:v.oneCell'=true)
 (ho:w.ownsRow base e size (.slice (some ⟨g,0,none⟩) m c) m xs) (hi:o<m*size)
 (k:∀ w',e_ g w w'→w'.ownsRow base e size (.slice (some ⟨g,0,none⟩) m c) m (xs.set o v)→St P ops Q rest n L w'):St P ops Q (⟨none,.store t x y,ty,pos,after,none⟩::rest) n L w:=by
 have hlen:xs.length=m*size:=ho.1;have hc:w.cell? ⟨g,o,none⟩=some (xs[o]'(by omega)):=by rw [ho.cellAt o hi];simp [hlen,hi]
 exact kO (mx ht hx hy h1 hc (ho.frozenAt o)) (k _ (e_.setCell w g o v) (ho.stored o v).1)
end
section
variable {α:Type} {f:α→List Value} {s:Nat}
theorem qp (hf:∀ x,(f x).length=s) (L:List α) (i:Nat) (hi:i<L.length) (x:α):jo (L.flatMap f) (i*s) (f x)=(L.set i x).flatMap f:=by
 unfold jo;rw [qz hf,hf,←Nat.succ_mul,nt hf]
 conv=>rhs;rw [List.set_eq_take_append_cons_drop,if_pos hi]
 simp
end
end Go.Proofs.YtkpooenofjdpmaaGreat
namespace Go.Proofs.YtkpooenofjdpmaaGreat
open Go.Proofs.Tryz (prog)
open Go.RowKit
end Go.Proofs.YtkpooenofjdpmaaGreat
namespace Go.Proofs.YtkpooenofjdpmaaGreat
open Go.Proofs.Tryz (prog)
open Go.RowKit
def nS (l:List Oper) (K mu i:Nat):Bool:=Nat.blt mu K&&match l[mu]? with | some om=>nu l om i | none=>false
theorem pA {l:List Oper} {K mu i:Nat} (h:nS l K mu i=true):mu<K∧∃ om,l[mu]? =some om∧nu l om i=true:=by
 unfold nS at h;rw [Bool.and_eq_true] at h;refine ⟨Nat.le_of_ble_eq_true h.1,?_⟩;have h2:=h.2;split at h2
 ·rename_i om hom;exact ⟨om,hom,h2⟩
 ·cases h2
def mh (P:Program) (ops:Array Oper) (n:Fr) (L:List (Nat×Value)) (I1 I2:World→Prop) (R1 R2:Nat→Value→World→Prop) (l0:List Oper) (K:Nat) (mu:Nat):Nat→List Oper→Prop
 |_,[]=>True
 |i,o::r=>(Nat.beq i mu=false→match nS l0 K mu i with
   |true=>∀ w',I1 w'→jI R1 w' (gh l0 K i o) fun M=>ay P ops n (M++L) o w' (R1 (o.dst.getD 0))
   |false=>∀ w',I2 w'→jI R2 w' (gh l0 K i o) fun M=>ay P ops n (M++L) o w' (R1 (o.dst.getD 0)))∧mh P ops n L I1 I2 R1 R2 l0 K mu (i+1) r
theorem ni {P:Program} {ops:Array Oper} {n:Fr} {L:List (Nat×Value)} {I1 I2:World→Prop} {R1 R2:Nat→Value→World→Prop} {l0:List Oper} {K mu:Nat}:∀ {l:List Oper} {k:Nat},mh P ops n L I1 I2 R1 R2 l0 K mu k l→∀ (i:Nat) (o:Oper),l[i]? =some o→k+i≠mu→
 match nS l0 K mu (k+i) with
  |true=>∀ w',I1 w'→jI R1 w' (gh l0 K (k+i) o) fun M=>ay P ops n (M++L) o w' (R1 (o.dst.getD 0))
  |false=>∀ w',I2 w'→jI R2 w' (gh l0 K (k+i) o) fun M=>ay P ops n (M++L) o w' (R1 (o.dst.getD 0))
 |[],_,_,i,o,h,_=>by simp at h
 |x::r,k,⟨h1,h2⟩,0,o,h,hne=>by
  simp only [List.getElem?_cons_zero,Option.some.injEq] at h;subst h;rw [Nat.add_zero] at hne ⊢;refine h1 ?_;rw [←Bool.not_eq_true];intro hb;exact hne (Nat.eq_of_beq_eq_true hb)
 |x::r,k,⟨h1,h2⟩,i+1,o,h,hne=>by
  have:=ni h2 i o (by simpa using h) (by omega)
  rwa [show k+1+i=k+(i+1) by omega] at this
theorem pc {P:Program} {ops:Array Oper} {n:Fr} {L:List (Nat×Value)} {I1 I2:World→Prop} {R1 R2:Nat→Value→World→Prop} {l0:List Oper} {K mu:Nat} {l:List Oper} (h:mh P ops n L I1 I2 R1 R2 l0 K mu 0 l) (i:Nat) (o:Oper) (ho:l[i]? =some o) (hne:i≠mu) (hd:nS l0 K mu i=false)
 (w':World) (hw:I2 w'):jI R2 w' (gh l0 K i o) fun M=>ay P ops n (M++L) o w' (R1 (o.dst.getD 0)):=by
 have:=ni h i o ho (by rw [Nat.zero_add];exact hne);rw [Nat.zero_add,hd] at this;exact this w' hw
theorem tz {P:Program} {ops:Array Oper} {n:Fr} {L:List (Nat×Value)} {I1 I2:World→Prop} {R1 R2:Nat→Value→World→Prop} {l0:List Oper} {K mu:Nat} {l:List Oper} (h:mh P ops n L I1 I2 R1 R2 l0 K mu 0 l) (i:Nat) (o:Oper) (ho:l[i]? =some o) (hne:i≠mu) (hd:nS l0 K mu i=true)
 (w':World) (hw:I1 w'):jI R1 w' (gh l0 K i o) fun M=>ay P ops n (M++L) o w' (R1 (o.dst.getD 0)):=by
 have:=ni h i o ho (by rw [Nat.zero_add];exact hne);rw [Nat.zero_add,hd] at this;exact this w' hw
section late
variable {P:Program} {Q:Exit→Act→World→Prop} {n:Fr} {L:List (Nat×Value)} {w:World} {l:List Oper} {K mu:Nat} {I1 I2:World→Prop} {R1 R:Nat→Value→World→Prop}
theorem qw (hQ:PQ Q) (hc:lM l K=true) (hop:mh P l.toArray n L I1 I2 R1 R l K mu 0 (l.take K)) (h12:∀ t v w,R1 t v w→R t v w) (hmuL:mu<K→eL l K mu=false)
 (hend:∀ w',I2 w'→jI R w' (ga l K) fun M=>St P l.toArray Q (l.drop K) n (M++L) w') (m:Nat) (listed:Array Bool) (L':List (Nat×Value)) (w':World) (hcl:iz l listed) (hcount:listed.toList.count false=m) (hs:listed.size=l.length)
 (htail:∀ j,K≤j→j<l.length→listed.getD j true=false) (hF:I2 w')
 (hfr:∀ t,(∀ i o,i<K→l[i]? =some o→listed.getD i true=true→o.dst≠some t)→bI L' t=bI L t)
 (hR:∀ i o d,i<K→l[i]? =some o→listed.getD i true=true→o.dst=some d→R d (bI L' d) w') (hpre:∀ i,i<K→listed.getD i true=false→eL l K i=true):wpAny P .any l.toArray Q m listed (mkA n L') w':=by
 have hc1:=(Bool.and_eq_true_iff.1 hc).1;have hlate:=(Bool.and_eq_true_iff.1 hc).2;have hKl:K≤l.length:=dT_ (Bool.and_eq_true_iff.1 hc1).1;have hck:=(List.all_eq_true.1 (Bool.and_eq_true_iff.1 hc1).2)
 have hhead:∀ i,i<K→∃ o d,l[i]? =some o∧o.dst=some d∧dN o.op=false∧(∀ j oj,j<K→j≠i→l[j]? =some oj→oj.dst≠some d):=by
  intro i hi;have hil:i<l.length:=by omega
  have hx:=hck i (List.mem_range.2 hil);rw [List.getElem?_eq_getElem hil] at hx;simp only [Bool.and_eq_true] at hx;have h3:=hx.2;rw [if_pos hi] at h3;simp only [Bool.and_eq_true] at h3;obtain ⟨h3a,h3b⟩:=h3;cases hod:(l[i]).dst with
  |none=>rw [hod] at h3a;cases h3a
  |some d=>
   rw [hod] at h3a;simp only [Bool.and_eq_true] at h3a;refine ⟨l[i],d,List.getElem?_eq_getElem hil,hod,by simpa using hx.1.2,fun j oj hj hne hoj e=>?_⟩;have h5:=List.all_eq_true.1 h3a.1 j (List.mem_range.2 hj);rw [hoj] at h5;simp [hne,e] at h5
 have hval:∀ i,i<K→listed.getD i true=false→∃ v,∀ o d,l[i]? =some o→o.dst=some d→Yields P l.toArray o v (mkA n L')∧R d v w':=by
  intro i hi hf;have hil8:=hpre i hi hf;obtain ⟨o,d,ho,hd,hsel,_⟩:=hhead i hi;obtain ⟨hk,hg,hap⟩:=jr hlate hi ho hil8
  have hfact:∀ t∈gh l K i o,R t (bI L' t) w':=by
   intro t ht;obtain ⟨ht2,j,oj,hjK,hj,hdj,hji,_⟩:=jL hc hi ho ht;refine hR j oj t hjK hj ?_ hdj;cases hb:listed.getD j true with
   |true=>rfl
   |false=>
    have h6:=hpre j hjK hb;have h7:=(Oper.apart_spec (hap j oj hj (by omega) (.inl ⟨hjK,h6⟩))).2.2 t hdj;exact absurd (by simpa using ht2) h7
  have hlooks:=qX (L:=L) hc hcl hs ho (by omega) hf hfr
  have hnd:nS l K mu i=false:=by
   rw [←Bool.not_eq_true];intro hd;obtain ⟨hmK,om,hom,hdep⟩:=pA hd
   have hml:listed.getD mu true=true:=by
    cases hb:listed.getD mu true with
    |true=>rfl
    |false=>exact absurd (hpre mu hmK hb) (by rw [hmuL hmK];simp)
   have hml2:listed.getD mu false=true:=by rw [←bP (by omega)];exact hml
   have:=fO hcl (fun e he hb=>hcl mu om hom hml2 e he hb) hdep;rw [←bP (by omega),hf] at this;cases this
  have hok:=gv (bI L') _ hfact (pc hop i o (by rw [List.getElem?_take,if_pos hi];exact ho) (by intro e;rw [e,hmuL (by omega)] at hil8;cases hil8) hnd w' hF);obtain ⟨hE,hW⟩:=fV (n:=n) (ops:=l.toArray) (o:=o) hsel hlooks;rw [hd] at hok;simp only [Option.getD_some] at hok
  have hyl:∃ v,Yields P l.toArray o v (mkA n L')∧R d v w':=by
   unfold ay at hok;rw [hE,hW] at hok;rcases hok with ⟨hw,⟨v,w'',hr,hF',hRv⟩ | ⟨f,args,hr,hcall⟩⟩ | ⟨hw,hRv⟩
   ·obtain ⟨rfl,hall⟩:=sm hk hr;refine ⟨v,.inl ⟨hw,fun w2=>?_⟩,h12 _ _ _ hRv⟩;rw [dA];exact hall w2
   ·exfalso;obtain ⟨dst,op,ty,pos,after,guard⟩:=o;cases op <;> simp only [pj,Bool.false_eq_true] at hk <;> simp only [execOp,Sem.run_pure,Sem.run_bind,Result.ok.injEq] at hr
    ·cases hr.1
    ·cases hr.1
    ·rename_i x i';cases hx:ev n L' x <;> simp only [hx,Instr.extract] at hr <;> (try (simp at hr;done))
     rename_i vs;cases hv:vs[i']? <;> simp [hv] at hr
   ·exact ⟨undef,.inr ⟨hw,rfl⟩,h12 _ _ _ hRv⟩
  obtain ⟨v,hv1,hv2⟩:=hyl;refine ⟨v,fun o' d' ho' hd'=>?_⟩;rw [ho] at ho';cases ho';rw [hd] at hd';cases hd';exact ⟨hv1,hv2⟩
 obtain ⟨f,hf⟩:∃ f:Nat→Value,∀ i,i<K→listed.getD i true=false→∀ o d,l[i]? =some o→o.dst=some d→Yields P l.toArray o (f i) (mkA n L')∧R d (f i) w':=by
  refine ⟨fun i=>open Classical in if h:∃ v,∀ o d,l[i]? =some o→o.dst=some d→Yields P l.toArray o v (mkA n L')∧R d v w' then h.choose else undef,fun i hi hl=>?_⟩;have h:=hval i hi hl;simp only [dif_pos h];exact h.choose_spec
 have hUm:∀ i,i∈(List.range K).filter (fun i=> !listed.getD i true)↔i<K∧listed.getD i true=false:=fun i=>by
  rw [List.mem_filter,List.mem_range];simp
 obtain ⟨U,hU,hUn⟩:∃ U:List Nat,(∀ i,i∈U↔i<K∧listed.getD i true=false)∧U.Nodup:=⟨_,hUm,List.nodup_range.sublist (List.filter_sublist ..)⟩;have hbind:∀ {i:Nat} {o:Oper},l[i]? =some o→(l[i]?).bind (·.dst)=o.dst:=fun h=>by rw [h];rfl
 have hRall:∀ d∈ga l K,R d (bI ((U.filterMap fun i=>((l[i]?).bind (·.dst)).map fun d=>(d,f i))++L') d) w':=by
  intro d hd;obtain ⟨o,ho,hod⟩:=List.mem_filterMap.1 hd;obtain ⟨i,hi⟩:=List.mem_iff_getElem?.1 ho;rw [List.getElem?_take] at hi;split at hi
  ·rename_i hiK;obtain ⟨o',d',ho',hd',_,hdist⟩:=hhead i hiK;rw [hi] at ho';cases ho';rw [hod] at hd';cases hd'
   have hne:∀ j∈U,j≠i→(l[j]?).bind (·.dst)≠some d:=fun j hj hji=>by
    have hjK:=((hU j).1 hj).1;obtain ⟨oj,dj,hoj,_⟩:=hhead j hjK;rw [hbind hoj];exact hdist j oj hjK hji hoj
   cases hb:listed.getD i true with
   |true=>
    rw [i_ U fun j hj=>hne j hj (fun e=>by subst e;have:=((hU j).1 hj).2;rw [hb] at this;cases this)];exact hR i o d hiK hi hb hod
   |false=>
    rw [kr U ((hU i).2 ⟨hiK,hb⟩) ((hbind hi).trans hod) hne];exact (hf i hiK hb o d hi hod).2
  ·cases hi
 have he:=gv _ (ga l K) hRall (hend w' hF)
 have hL:mkA n ((ga l K).map (fun d=>(d,bI ((U.filterMap fun i=>((l[i]?).bind (·.dst)).map fun d=>(d,f i))++L') d))++L)=iS l f U (mkA n L'):=by
  rw [o_];refine ik fun t _=>?_
  rw [j8];split
  ·rfl
  ·rename_i hne
   have hnd:∀ i,i<K→∀ o,l[i]? =some o→o.dst≠some t:=fun i hi o ho hod=>hne (by
    simp only [List.elem_eq_mem,decide_eq_true_eq];exact List.mem_filterMap.2 ⟨o,List.mem_iff_getElem?.2 ⟨i,by rw [List.getElem?_take,if_pos hi];exact ho⟩,hod⟩)
   rw [i_ U fun j hj=>by
    have hjK:=((hU j).1 hj).1;obtain ⟨oj,dj,hoj,_⟩:=hhead j hjK;rw [hbind hoj];exact hnd j hjK oj hoj]
   exact (hfr t fun i o hi ho _ hod=>hnd i hi o ho hod).symm
 replace he:=he.out;rw [hL] at he;refine oO hQ hc m K listed U _ w' hcl hcount hs (Nat.le_refl _) hKl (fun j h1 h2=>by rw [htail j h1 h2];simp [h1]) hUn (fun j hj=>⟨fun h=>(hU j).2 ⟨hj,h⟩,fun h=>((hU j).1 h).2⟩) (fun j hj=>?_) he;obtain ⟨h1,h2⟩:=(hU j).1 hj;obtain ⟨oj,dj,hoj,hdj,_⟩:=hhead j h1;exact ⟨h1,hpre j h1 h2,oj,hoj,(hf j h1 h2 oj dj hoj hdj).1⟩
theorem xC (hQ:PQ Q) (hc:lM l K=true) (hm1:∀ w1 w2,ah w1 w2→I1 w1→I1 w2) (hm2:∀ w1 w2,ah w1 w2→I2 w1→I2 w2) (hmono1:∀ t v w1 w2,ah w1 w2→R1 t v w1→R1 t v w2) (hmono:∀ t v w1 w2,ah w1 w2→R t v w1→R t v w2)
 (hop:mh P l.toArray n L I1 I2 R1 R l K mu 0 (l.take K)) (h12:∀ t v w,R1 t v w→R t v w) (hmuL:mu<K→eL l K mu=false) (hmu:zJ P l.toArray n L I1 I2 R1 R l K mu l[mu]?)
 (hend:∀ w',I2 w'→jI R w' (ga l K) fun M=>St P l.toArray Q (l.drop K) n (M++L) w') :
 ∀ (m:Nat) (listed:Array Bool) (L':List (Nat×Value)) (w':World),iz l listed→listed.toList.count false=m→listed.size=l.length→(∀ j,K≤j→j<l.length→listed.getD j true=false)→I2 w'→(listed.getD mu true=false→I1 w')→
  (∀ t,(∀ i o,i<K→l[i]? =some o→listed.getD i true=true→o.dst≠some t)→bI L' t=bI L t)→
  (∀ i o d,i<K→l[i]? =some o→listed.getD i true=true→o.dst=some d→R d (bI L' d) w')→(listed.getD mu true=false→∀ i o d,i<K→l[i]? =some o→listed.getD i true=true→o.dst=some d→R1 d (bI L' d) w')→wpAny P .any l.toArray Q m listed (mkA n L') w':=by
 have hc1:=(Bool.and_eq_true_iff.1 hc).1;have hlate:=(Bool.and_eq_true_iff.1 hc).2;have hKl:K≤l.length:=dT_ (Bool.and_eq_true_iff.1 hc1).1;have hck:=(List.all_eq_true.1 (Bool.and_eq_true_iff.1 hc1).2);intro m
 induction m with
 |zero=>
  intro listed L' w' hcl hcount hs htail hF hF1 hfr hR hR1
  exact qw hQ hc hop h12 hmuL hend 0 listed L' w' hcl hcount hs htail hF hfr hR (fun i hi h=>by
   have hm:listed[i]'(by omega)∈listed.toList:=by simp
   have hb:listed[i]'(by omega)=false:=by simpa [Array.getD,show i<listed.size by omega] using h
   rw [hb] at hm;exact absurd hcount (Nat.pos_iff_ne_zero.1 (List.count_pos_iff.2 hm)))
 |succ m ih=>
  intro listed L' w' hcl hcount hs htail hF hF1 hfr hR hR1;by_cases hpre:∀ i,i<K→listed.getD i true=false→eL l K i=true
  ·exact qw hQ hc hop h12 hmuL hend (m+1) listed L' w' hcl hcount hs htail hF hfr hR hpre
  ·
   have hn0:∃ i,i<K∧listed.getD i true=false∧eL l K i=false:=by
    refine Classical.byContradiction fun hno=>hpre fun i hi hf=>?_
    cases hb:eL l K i with
    |true=>rfl
    |false=>exact absurd ⟨i,hi,hf,hb⟩ hno
   obtain ⟨n0,hn0⟩:=hn0;obtain ⟨i0,hi0,hmin⟩:=exists_least (p:=fun i=>i<K∧listed.getD i true=false) ⟨n0,hn0.1,hn0.2.1⟩;have hi0l:i0<l.length:=by omega
   have hready:i0∈Region.ready .any l.toArray listed:=by
    refine mem_ready.2 ⟨hi0.2,l[i0],by rw [List.getElem?_toArray,List.getElem?_eq_getElem hi0l],fun e he hb=>?_⟩;have hx:=hck i0 (List.mem_range.2 hi0l);rw [List.getElem?_eq_getElem hi0l] at hx;simp only [Bool.and_eq_true] at hx;have he2:=List.all_eq_true.1 hx.1.1 e (by simpa using he);rw [hb] at he2;simp at he2;rw [←bP (by omega)];cases hb2:listed.getD e.on true with
    |true=>rfl
    |false=>exact absurd (hmin e.on ⟨by omega,hb2⟩) (by omega)
   refine ⟨fun h0=>(by rw [h0] at hready;cases hready),fun i hi=>?_⟩;obtain ⟨h0,o,ho,hall⟩:=mem_ready.1 hi;rw [List.getElem?_toArray] at ho;have hil:i<l.length:=(List.getElem?_eq_some_iff.1 ho).1;have hx:=hck i (List.mem_range.2 hil);rw [ho] at hx;simp only [Bool.and_eq_true] at hx
   have hiK:i<K:=by
    rcases Nat.lt_or_ge i K with h | h
    ·exact h
    ·exfalso;have h5:=fO hcl hall (lL hn0.2.2 ho h);rw [←bP (by omega),hn0.2.1] at h5;cases h5
   have h3:=hx.2;rw [if_pos hiK] at h3;simp only [Bool.and_eq_true] at h3;obtain ⟨h3a,h3b⟩:=h3;cases hod:o.dst with
   |none=>rw [hod] at h3a;cases h3a
   |some d=>
    rw [hod] at h3a;simp only [Bool.and_eq_true] at h3a;have hlooks:=qX (L:=L) hc hcl hs ho hil h0 hfr
    have hfactG:∀ (RR:Nat→Value→World→Prop),(∀ i o d,i<K→l[i]? =some o→listed.getD i true=true→o.dst=some d→RR d (bI L' d) w')→∀ t∈gh l K i o,RR t (bI L' t) w':=by
     intro RR hRR t ht;obtain ⟨_,j,oj,hjK,hj,hd,_,hdep⟩:=jL hc hiK ho ht;have h6:=fO hcl hall hdep;exact hRR j oj t hjK hj (by rw [bP (by omega)];exact h6) hd
    have hsel:dN o.op=false:=by simpa using hx.1.2
    obtain ⟨hE,hW⟩:=fV (n:=n) (ops:=l.toArray) (o:=o) hsel hlooks
    have next:∀ v w'',I2 w''→(i≠mu→listed.getD mu true=false→I1 w'')→R d v w''→(i≠mu→R1 d v w'')→(∀ t u,t≠d→R t u w'→(i=mu→R1 t u w')→R t u w'')→(i≠mu→∀ t u,R1 t u w'→R1 t u w'')→wpAny P .any l.toArray Q m (listed.setIfInBounds i true) ((mkA n L').put (some d) v) w'':=by
     intro v w'' hI2' hI1' hRv hR1v hst hst1;rw [fN]
     have hne:∀ j oj d',j<K→l[j]? =some oj→j≠i→oj.dst=some d'→d'≠d:=by
      intro j oj d' hj hoj hji hd e;have h5:=List.all_eq_true.1 h3a.1 j (List.mem_range.2 hj);rw [hoj] at h5;simp [hji,hd,e] at h5
     refine ih _ _ w'' (kt hcl ho hall) ?_ (by simpa using hs) (fun j hj1 hj2=>?_) hI2' (fun hml=>?_) (fun t ht=>?_) (fun j oj d' hj hoj hlj hd=>?_) (fun hml j oj d' hj hoj hlj hd=>?_)
     ·have hil':i<listed.size:=by omega
      have hfalse:listed.toList[i]? =some false:=by
       rw [Array.getElem?_toList,Array.getElem?_eq_getElem hil'];simp [Array.getD,hil'] at h0;rw [h0]
      rw [Array.toList_setIfInBounds];have:=fm (l:=listed.toList) (i:=i) hfalse;omega
     ·rw [getD_set_ne true (by omega)];exact htail j hj1 hj2
     ·have him:i≠mu:=fun e=>by subst e;simp [show i<listed.size by omega] at hml
      rw [getD_set_ne true him] at hml;exact hI1' him hml
     ·have htd:t≠d:=fun e=>ht i o hiK ho (by simp [show i<listed.size by omega]) (by rw [hod,e])
      rw [cJ,if_neg htd];refine hfr t fun j oj hj hoj hlj=>ht j oj hj hoj ?_
      by_cases e:i=j
      ·subst e;rw [h0] at hlj;cases hlj
      ·rw [getD_set_ne true e];exact hlj
     ·rw [cJ];by_cases e:j=i
      ·subst e;rw [ho] at hoj;cases hoj;rw [hod] at hd;cases hd;rw [if_pos rfl];exact hRv
      ·have hdd:=hne j oj d' hj hoj e hd;rw [if_neg hdd];rw [getD_set_ne true (Ne.symm e)] at hlj;refine hst _ _ hdd (hR j oj d' hj hoj hlj hd) (fun e2=>?_);subst e2;exact hR1 h0 j oj d' hj hoj hlj hd
     ·have him:i≠mu:=fun e=>by subst e;simp [show i<listed.size by omega] at hml
      rw [getD_set_ne true him] at hml;rw [cJ];by_cases e:j=i
      ·subst e;rw [ho] at hoj;cases hoj;rw [hod] at hd;cases hd;rw [if_pos rfl];exact hR1v him
      ·rw [if_neg (hne j oj d' hj hoj e hd)];rw [getD_set_ne true (Ne.symm e)] at hlj;exact hst1 him _ _ (hR1 hml j oj d' hj hoj hlj hd)
    unfold wpOp;rw [List.getElem?_toArray,ho];show if Region.wanted o (yielded l.toArray (mkT n.n L'))=true then _ else _
    by_cases him:i=mu
    ·subst him;rw [ho] at hmu;have hok:=gv (bI L') _ (hfactG R1 (hR1 h0)) (hmu w' (hF1 h0));rw [hod] at hok;simp only [Option.getD_some] at hok;unfold we at hok;rw [hE,hW] at hok;obtain ⟨hw,⟨v,w'',hr,hI,hRv,hst⟩ | ⟨f,args,hr,hcall⟩⟩:=hok
     ·rw [if_pos hw];refine .inl ?_;unfold Oper.wp;rw [dA,hr,Oper.upon_value,hod];exact next v w'' hI (fun h=>absurd rfl h) hRv (fun h=>absurd rfl h) (fun t u ht _ h1=>hst t u ht (h1 rfl)) (fun h=>absurd rfl h)
     ·rw [if_pos hw];refine .inl ?_;unfold Oper.wp;rw [dA,hr,Oper.upon_enter,hod];refine Calls.mono hcall fun e w'' ⟨v,he,hI,hRv,hst⟩=>?_
      subst he;exact next v w'' hI (fun h=>absurd rfl h) hRv (fun h=>absurd rfl h) (fun t u ht _ h1=>hst t u ht (h1 rfl)) (fun h=>absurd rfl h)
    ·have hok:ay P l.toArray n (((gh l K i o).map fun d=>(d,bI L' d))++L) o w' (R1 (o.dst.getD 0)):=by
      cases hdm:nS l K mu i with
      |false=>exact gv (bI L') _ (hfactG R hR) (pc hop i o (by rw [List.getElem?_take,if_pos hiK];exact ho) him hdm w' hF)
      |true=>
       have hml:listed.getD mu true=false:=by
        obtain ⟨hmK,om,hom,hdep⟩:=pA hdm;rw [←Bool.not_eq_true];intro hml;have hml2:listed.getD mu false=true:=by rw [←bP (by omega)];exact hml
        have:=fO hcl (fun e he hb=>hcl mu om hom hml2 e he hb) hdep;rw [←bP (by omega),h0] at this;cases this
       exact gv (bI L') _ (hfactG R1 (hR1 hml)) (tz hop i o (by rw [List.getElem?_take,if_pos hiK];exact ho) him hdm w' (hF1 hml))
     rw [hod] at hok;simp only [Option.getD_some] at hok;unfold ay at hok;rw [hE,hW] at hok
     have next':∀ v w'',ah w' w''→R1 d v w''→wpAny P .any l.toArray Q m (listed.setIfInBounds i true) ((mkA n L').put (some d) v) w'':=fun v w'' hF' hRv=>
      next v w'' (hm2 _ _ hF' hF) (fun _ h=>hm1 _ _ hF' (hF1 h)) (h12 _ _ _ hRv) (fun _=>hRv) (fun t u _ h _=>hmono _ _ _ _ hF' h) (fun _ t u h=>hmono1 _ _ _ _ hF' h)
     rcases hok with ⟨hw,⟨v,w'',hr,hF',hRv⟩ | ⟨f,args,hr,hcall⟩⟩ | ⟨hw,hRv⟩
     ·rw [if_pos hw];refine .inl ?_;unfold Oper.wp;rw [dA,hr,Oper.upon_value,hod];exact next' v w'' hF' hRv
     ·rw [if_pos hw];refine .inl ?_;unfold Oper.wp;rw [dA,hr,Oper.upon_enter,hod];refine Calls.mono hcall fun e w'' ⟨v,he,hF',hRv⟩=>?_
      subst he;exact next' v w'' hF' hRv
     ·rw [if_neg (by rw [hw];simp),hod];exact next' undef w' ah.rfl_ hRv
theorem yc {id:Nat} (K mu:Nat) (Ex:List Nat) (RL:List (Nat×(Value→World→Prop))) (I1 I2:World→Prop) (hQ:PQ Q) (hm:P.follows .mixedOrders=true) (hc:lM l K=true) (hl:eL l K mu=false) (hmono:qJ RL)
 (h0:I1 { w with drawn:=w.drawn+1 }) (h0':I2 { w with drawn:=w.drawn+1 }) (hm1:∀ w1 w2,ah w1 w2→I1 w1→I1 w2) (hm2:∀ w1 w2,ah w1 w2→I2 w1→I2 w2)
 (hop:mh P l.toArray n L I1 I2 (h_ RL) (kU Ex RL) l K mu 0 (l.take K)) (hmu:zJ P l.toArray n L I1 I2 (h_ RL) (kU Ex RL) l K mu l[mu]?)
 (hend:∀ w',I2 w'→jI (kU Ex RL) w' (ga l K) fun M=>St P l.toArray Q (l.drop K) n (M++L) w'):Cd P (.region id l.toArray true) Q n L w:=by
 refine ⟨wp_region_any hm ?_⟩;have hKl:K≤l.length:=dT_ (Bool.and_eq_true_iff.1 (Bool.and_eq_true_iff.1 hc).1).1
 have:=xC (Q:=Q) hQ hc hm1 hm2 (il hmono) (tJ hmono) hop xN (fun _=>hl) hmu hend l.length (Array.replicate l.length false) L { w with drawn:=w.drawn+1 } (nU l _) (by simp) (by simp)
  (fun j _ hj=>by simp [Array.getD,hj]) h0' (fun _=>h0) (fun _ _=>rfl) (fun i o d hi _ hl=>by
   have:i<l.length:=by omega
   simp [Array.getD,this] at hl) (fun _ i o d hi _ hl=>by
   have:i<l.length:=by omega
   simp [Array.getD,this] at hl)
 simpa using this
end late
end Go.Proofs.YtkpooenofjdpmaaGreat
namespace Go.Proofs.YtkpooenofjdpmaaGreat
open Go.Proofs.Tryz (prog)
open Go.RowKit
def atL {α:Type _}:List α→Nat→Option α
 |[],_=>none
 |x::_,0=>some x
 |_::r,k+1=>atL r k
theorem gM {α:Type _} {x:α}:∀ {l:List α} (k:Nat),atL l k=some x→x∈l
 |[],_,h=>by cases h
 |y::r,0,h=>by
  cases h;exact List.mem_cons_self
 |y::r,k+1,h=>List.mem_cons_of_mem _ (gM k h)
def py (l:List Oper):Bool:=(List.range l.length).all fun i=>match l[i]? with
 |none=>false
 |some o=>o.guard.isNone&&o.after.toList.all fun e=> !Region.binds .any e||decide (e.on<i)
def dJ (S:Nat→Bool) (i:Nat):Nat→Bool:=fun j=>if j=i then true else S j
def gL (P:Program) (n:Fr) (o:Oper) (Inv:List (Nat×Value)→World→Prop) (L':List (Nat×Value)) (w':World):Prop:=
 (∃ d v w'',o.dst=some d∧(execOp (ev n L') o).run P w'=.ok (.value v) w''∧Inv ((d,v)::L') w'')∨
 (∃ w'',o.dst=none∧(execOp (ev n L') o).run P w'=.ok .skip w''∧Inv L' w'')∨
 (∃ d f args,o.dst=some d∧(execOp (ev n L') o).run P w'=.ok (.enter f (List.toArray args)) w'∧Rt P f args w' fun v w''=>Inv ((d,v)::L') w'')
section
variable {P:Program} {Q:Exit→Act→World→Prop} {n:Fr} {L:List (Nat×Value)} {w:World} {l:List Oper}
theorem ze {Inv:(Nat→Bool)→List (Nat×Value)→World→Prop} (hwf:py l=true)
 (hstep:∀ (i:Nat) (o:Oper) (S:Nat→Bool) (L':List (Nat×Value)) (w':World),l[i]? =some o→Inv S L' w'→S i=false→(∀ e∈o.after,Region.binds .any e=true→S e.on=true)→gL P n o (Inv (dJ S i)) L' w')
 (hend:∀ L' w',Inv (fun i=>decide (i<l.length)) L' w'→Q .normal (mkA n L') w') :
 ∀ (m:Nat) (listed:Array Bool) (L':List (Nat×Value)) (w':World),listed.toList.count false=m→listed.size=l.length→Inv (fun i=>listed.getD i false) L' w'→wpAny P .any l.toArray Q m listed (mkA n L') w':=by
 have hck:=List.all_eq_true.1 hwf;intro m
 induction m with
 |zero=>
  intro listed L' w' hcount hs hI
  have hall:∀ i,i<l.length→listed.getD i false=true:=fun i hi=>by
   have hm:listed[i]'(by omega)∈listed.toList:=by simp
   cases hb:listed[i]'(by omega) with
   |true=>simp [Array.getD,show i<listed.size by omega,hb]
   |false=>rw [hb] at hm;exact absurd hcount (Nat.pos_iff_ne_zero.1 (List.count_pos_iff.2 hm))
  have e:(fun i=>listed.getD i false)=fun i=>decide (i<l.length):=by
   funext i
   by_cases hi:i<l.length
   ·rw [hall i hi,decide_eq_true hi]
   ·rw [decide_eq_false hi];simp [Array.getD,show ¬ i<listed.size by omega]
  rw [e] at hI;refine ⟨?_,hend L' w' hI⟩;cases hr:Region.ready .any l.toArray listed with
  |nil=>rfl
  |cons i r=>
   exfalso;obtain ⟨h0,o,ho,_⟩:=mem_ready.1 (show i∈Region.ready .any l.toArray listed by rw [hr];simp);rw [List.getElem?_toArray] at ho;have hil:i<l.length:=(List.getElem?_eq_some_iff.1 ho).1;have:=hall i hil;rw [←bP (by omega),h0] at this;cases this
 |succ m ih=>
  intro listed L' w' hcount hs hI
  have hn0:∃ i,i<l.length∧listed.getD i true=false:=by
   have hpos:0<listed.toList.count false:=by omega
   obtain ⟨i,hi,hb⟩:=List.getElem_of_mem (List.count_pos_iff.1 hpos);rw [Array.length_toList] at hi;refine ⟨i,by omega,?_⟩;rw [Array.getElem_toList] at hb;simp [Array.getD,hi,hb]
  obtain ⟨i0,hi0,hmin⟩:=exists_least (p:=fun i=>i<l.length∧listed.getD i true=false) hn0
  have hready:i0∈Region.ready .any l.toArray listed:=by
   refine mem_ready.2 ⟨hi0.2,l[i0]'hi0.1,by rw [List.getElem?_toArray,List.getElem?_eq_getElem hi0.1],fun e he hb=>?_⟩;have hx:=hck i0 (List.mem_range.2 hi0.1);rw [List.getElem?_eq_getElem hi0.1] at hx;simp only [Bool.and_eq_true] at hx;have he2:=List.all_eq_true.1 hx.2 e (by simpa using he);rw [hb] at he2;simp at he2;have:=hi0.1;rw [←bP (by omega)];cases hb2:listed.getD e.on true with
   |true=>rfl
   |false=>exact absurd (hmin e.on ⟨by omega,hb2⟩) (by omega)
  refine ⟨fun h0=>(by rw [h0] at hready;cases hready),fun i hi=>?_⟩;obtain ⟨h0,o,ho,hall⟩:=mem_ready.1 hi;rw [List.getElem?_toArray] at ho;have hil:i<l.length:=(List.getElem?_eq_some_iff.1 ho).1;have hx:=hck i (List.mem_range.2 hil);rw [ho] at hx;simp only [Bool.and_eq_true] at hx;have hg:o.guard=none:=by simpa using hx.1
  have h0f:listed.getD i false=false:=by rw [←bP (by omega)];exact h0
  have hset:(fun j=>(listed.setIfInBounds i true).getD j false)=dJ (fun j=>listed.getD j false) i:=by
   funext j
   unfold dJ;by_cases e:j=i
   ·subst e;simp [Array.getD,show j<listed.size by omega]
   ·rw [if_neg e,getD_set_ne false (Ne.symm e)]
  have hcnt:(listed.setIfInBounds i true).toList.count false=m:=by
   have hil':i<listed.size:=by omega
   have hfalse:listed.toList[i]? =some false:=by
    rw [Array.getElem?_toList,Array.getElem?_eq_getElem hil'];simp [Array.getD,hil'] at h0;rw [h0]
   rw [Array.toList_setIfInBounds];have:=fm (l:=listed.toList) (i:=i) hfalse;omega
  have next:∀ L2 w2,Inv (dJ (fun j=>listed.getD j false) i) L2 w2→wpAny P .any l.toArray Q m (listed.setIfInBounds i true) (mkA n L2) w2:=fun L2 w2 h=>
   ih _ L2 w2 hcnt (by simpa using hs) (by rw [hset];exact h)
  unfold wpOp;rw [List.getElem?_toArray,ho];show if Region.wanted o (yielded l.toArray (mkT n.n L'))=true then _ else _
  rw [if_pos (by unfold Region.wanted;rw [hg])];refine .inl ?_;unfold Oper.wp;rw [dA];rcases hstep i o _ L' w' ho hI h0f hall with ⟨d,v,w'',hd,hr,hI2⟩ | ⟨w'',hd,hr,hI2⟩ | ⟨d,f,args,hd,hr,hc⟩
  ·rw [hr,Oper.upon_value,hd,fN];exact next _ _ hI2
  ·rw [hr,Oper.upon_skip,hd];exact next _ _ hI2
  ·rw [hr,Oper.upon_enter,hd];refine Calls.mono hc fun e w'' ⟨v,he,hI2⟩=>?_
   subst he;show wpAny P .any l.toArray Q m (listed.setIfInBounds i true) ((mkA n L').put (some d) v) w'';rw [fN];exact next _ _ hI2
theorem tY {id:Nat} (Inv:(Nat→Bool)→List (Nat×Value)→World→Prop) (hm:P.follows .mixedOrders=true) (hwf:py l=true) (h0:Inv (fun _=>false) L { w with drawn:=w.drawn+1 })
 (hstep:∀ (i:Nat) (o:Oper) (S:Nat→Bool) (L':List (Nat×Value)) (w':World),l[i]? =some o→Inv S L' w'→S i=false→(∀ e∈o.after,Region.binds .any e=true→S e.on=true)→gL P n o (Inv (dJ S i)) L' w')
 (hend:∀ L' w',Inv (fun i=>decide (i<l.length)) L' w'→Q .normal (mkA n L') w'):Cd P (.region id l.toArray true) Q n L w:=by
 refine ⟨wp_region_any hm ?_⟩
 have:=ze (Q:=Q) hwf hstep hend l.length (Array.replicate l.length false) L { w with drawn:=w.drawn+1 } (by simp) (by simp) (by
  have e:(fun i=>(Array.replicate l.length false).getD i false)=fun _=>false:=by
   funext i
   by_cases hi:i<l.length <;> simp [Array.getD,hi]
  rw [e];exact h0)
 simpa using this
theorem b0 {d:Nat} {op:Op} {ty:TypeId} {pos:String} {after:Array Edge} {v:Value} {w' w'':World} {L':List (Nat×Value)} {Inv:List (Nat×Value)→World→Prop} (h:RO P (ev n L') op w' v w'') (hI:Inv ((d,v)::L') w''):gL P n ⟨some d,op,ty,pos,after,none⟩ Inv L' w':=
 .inl ⟨d,v,w'',rfl,h _ _ _ _ _,hI⟩
theorem gO {op:Op} {ty:TypeId} {pos:String} {after:Array Edge} {w' w'':World} {L':List (Nat×Value)} {Inv:List (Nat×Value)→World→Prop} (h:RS P (ev n L') op w' w'') (hI:Inv L' w''):gL P n ⟨none,op,ty,pos,after,none⟩ Inv L' w':=
 .inr (.inl ⟨w'',rfl,h _ _ _ _ _,hI⟩)
def iO (L:List (Nat×Value)) (T:List (Nat×Nat×Value)) (S:Nat→Bool) (L':List (Nat×Value)):Prop:=
 (∀ t,(∀ p∈T,p.2.1≠t)→bI L' t=bI L t)∧(∀ p∈T,S p.1=true→bI L' p.2.1=p.2.2)∧∀ p∈T,S p.1=false→bI L' p.2.1=bI L p.2.1
def k9:List (Nat×Nat×Value)→Prop
 |[]=>True
 |p::r=>(∀ q∈r,q.1≠p.1∧q.2.1≠p.2.1)∧k9 r
theorem qM:∀ {T:List (Nat×Nat×Value)},k9 T→∀ {p q:Nat×Nat×Value},p∈T→q∈T→p.1=q.1∨p.2.1=q.2.1→p=q
 |_::_,⟨h1,h2⟩,p,q,hp,hq,he=>by
  rcases List.mem_cons.1 hp with rfl | hp' <;> rcases List.mem_cons.1 hq with rfl | hq'
  ·rfl
  ·rcases he with e | e
   ·exact absurd e.symm (h1 _ hq').1
   ·exact absurd e.symm (h1 _ hq').2
  ·rcases he with e | e
   ·exact absurd e (h1 _ hp').1
   ·exact absurd e (h1 _ hp').2
  ·exact qM h2 hp' hq' he
theorem iO.put {T:List (Nat×Nat×Value)} {S:Nat→Bool} {L':List (Nat×Value)} {i d:Nat} {v:Value} (h:iO L T S L') (hU:k9 T) (hp:(i,d,v)∈T):iO L T (dJ S i) ((d,v)::L'):=by
 refine ⟨fun t ht=>?_,fun p hq hs=>?_,fun p hq hs=>?_⟩
 ·rw [cJ,if_neg (fun e=>ht _ hp e.symm)];exact h.1 t ht
 ·rw [cJ];by_cases e:p.2.1=d
  ·rw [if_pos e,qM hU hq hp (.inr e)]
  ·rw [if_neg e];refine h.2.1 p hq ?_;unfold dJ at hs;by_cases e2:p.1=i
   ·exact absurd (congrArg (·.2.1) (qM hU hq hp (.inl e2))) e
   ·rwa [if_neg e2] at hs
 ·unfold dJ at hs;by_cases e2:p.1=i
  ·rw [if_pos e2] at hs;cases hs
  ·rw [if_neg e2] at hs;rw [cJ,if_neg (fun e=>e2 (congrArg (·.1) (qM hU hq hp (.inr e))))];exact h.2.2 p hq hs
theorem iO.skip {T:List (Nat×Nat×Value)} {S:Nat→Bool} {L':List (Nat×Value)} {i:Nat} (h:iO L T S L') (hi:∀ p∈T,p.1≠i):iO L T (dJ S i) L':=by
 refine ⟨h.1,fun p hq hs=>h.2.1 p hq ?_,fun p hq hs=>h.2.2 p hq ?_⟩ <;> (unfold dJ at hs;rwa [if_neg (hi p hq)] at hs)
theorem iO.get {T:List (Nat×Nat×Value)} {S:Nat→Bool} {L':List (Nat×Value)} {i d:Nat} {v:Value} (h:iO L T S L') (hp:(i,d,v)∈T) (hs:S i=true):bI L' d=v:=h.2.1 _ hp hs
def iY (S:Nat→Bool):List Edge→Prop
 |[]=>True
 |e::r=>(bif Region.binds .any e then S e.on=true else True)∧iY S r
theorem kX {S:Nat→Bool}:∀ {es:List Edge},(∀ e∈es,Region.binds .any e=true→S e.on=true)→iY S es
 |[],_=>trivial
 |e::r,h=>by
  refine ⟨?_,kX fun e' he=>h e' (.tail _ he)⟩;cases hb:Region.binds .any e with
  |true=>exact h e (.head _) hb
  |false=>trivial
def uf (P:Program) (n:Fr) (L:List (Nat×Value)) (T:List (Nat×Nat×Value)) (Mem:(Nat→Bool)→World→Prop):Nat→List Oper→Prop
 |_,[]=>True
 |i,o::r=>(∀ S L' w',iO L T S L'→Mem S w'→S i=false→iY S o.after.toList→gL P n o (fun L2 w2=>iO L T (dJ S i) L2∧Mem (dJ S i) w2) L' w')∧uf P n L T Mem (i+1) r
theorem qf {T:List (Nat×Nat×Value)} {Mem:(Nat→Bool)→World→Prop}:∀ {r:List Oper} {k:Nat},uf P n L T Mem k r→∀ (i:Nat) (o:Oper),r[i]? =some o→∀ S L' w',iO L T S L'→Mem S w'→S (k+i)=false→iY S o.after.toList→gL P n o (fun L2 w2=>iO L T (dJ S (k+i)) L2∧Mem (dJ S (k+i)) w2) L' w'
 |[],_,_,i,o,h=>by simp at h
 |x::r,k,⟨h1,h2⟩,0,o,h=>by
  simp only [List.getElem?_cons_zero,Option.some.injEq] at h;subst h;exact h1
 |x::r,k,⟨h1,h2⟩,i+1,o,h=>by
  have:=qf h2 i o (by simpa using h)
  rwa [show k+1+i=k+(i+1) by omega] at this
theorem sk {T:List (Nat×Nat×Value)} (_:k9 T) {L L':List (Nat×Value)} {S:Nat→Bool} (h:iO L T S L') (hS:∀ p∈T,S p.1=true) (t:Nat):bI L' t=bI (T.map (fun p=>(p.2.1,p.2.2))++L) t:=by
 have key:∀ T':List (Nat×Nat×Value),(∀ p∈T',p∈T)→(∃ p∈T',p.2.1=t)∨(∀ p∈T',p.2.1≠t)→(∃ p∈T',p.2.1=t∧bI (T'.map (fun p=>(p.2.1,p.2.2))++L) t=p.2.2)∨((∀ p∈T',p.2.1≠t)∧bI (T'.map (fun p=>(p.2.1,p.2.2))++L) t=bI L t):=by
  intro T'
  induction T' with
  |nil=>exact fun _ _=>.inr ⟨fun p hp=>by simp at hp,rfl⟩
  |cons q r ih=>
   intro hsub _;rw [List.map_cons,List.cons_append,cJ];by_cases e:q.2.1=t
   ·rw [if_pos e.symm];exact .inl ⟨q,.head _,e,rfl⟩
   ·rw [if_neg (Ne.symm e)];rcases ih (fun p hp=>hsub p (.tail _ hp)) (by by_cases hx:∃ p∈r,p.2.1=t;exact .inl hx;exact .inr fun p hp he=>hx ⟨p,hp,he⟩) with ⟨p,hp,h1,h2⟩ | ⟨h1,h2⟩
    ·exact .inl ⟨p,.tail _ hp,h1,h2⟩
    ·refine .inr ⟨fun p hp=>?_,h2⟩;rcases List.mem_cons.1 hp with rfl | hp2
     ·exact e
     ·exact h1 p hp2
 rcases key T (fun _ hp=>hp) (by by_cases hx:∃ p∈T,p.2.1=t;exact .inl hx;exact .inr fun p hp he=>hx ⟨p,hp,he⟩) with ⟨p,hp,h1,h2⟩ | ⟨h1,h2⟩
 ·rw [h2,←h1];exact h.2.1 p hp (hS p hp)
 ·rw [h2];exact h.1 t h1
theorem mL {id:Nat} (T:List (Nat×Nat×Value)) (Mem:(Nat→Bool)→World→Prop) (hm:P.follows .mixedOrders=true) (hwf:py l=true) (hU:k9 T) (hlt:∀ p∈T,p.1<l.length) (h0:Mem (fun _=>false) { w with drawn:=w.drawn+1 })
 (hstep:uf P n L T Mem 0 l) (hend:∀ w',Mem (fun i=>decide (i<l.length)) w'→Q .normal (mkA n (T.map (fun p=>(p.2.1,p.2.2))++L)) w'):Cd P (.region id l.toArray true) Q n L w:=by
 refine tY (fun S L' w'=>iO L T S L'∧Mem S w') hm hwf ⟨⟨fun _ _=>rfl,fun _ _ h=>(by cases h),fun _ _ _=>rfl⟩,h0⟩ (fun i o S L' w' ho ⟨hI,hM⟩ hS hE=>?_) fun L' w' ⟨hI,hM⟩=>?_
 ·have:=qf hstep i o ho S L' w' hI hM (by rw [Nat.zero_add];exact hS) (kX fun e he=>hE e (by simpa using he))
  rwa [Nat.zero_add] at this
 ·have h:=hend w' hM
  have e:mkA n L'=mkA n (T.map (fun p=>(p.2.1,p.2.2))++L):=by
   unfold mkA;rw [j7 fun t _=>sk hU hI (fun p hp=>decide_eq_true (hlt p hp)) t]
  rw [e];exact h
theorem ji {t:TypeId} {x y:Operand} {g i:Nat} {u:TypeId} {cs:Array Value} {v:Value} (ht:ef P t=some 1) (hx:ev n L x=.pointer (some ⟨g,i,none⟩)) (hy:ev n L y=v) (h1:v.oneCell'=true) (hb:Blk w g u cs) (hi:i<cs.size) :
 ∃ w',RS P (ev n L) (.store t x y) w w'∧e_ g w w'∧Blk w' g u (cs.setIfInBounds i v):=by
 have hc:w.cell? ⟨g,i,none⟩=some (cs[i]'hi):=by rw [hb.cell];simp [hi]
 exact ⟨_,mx ht hx hy h1 hc (hb.frozen i),e_.setCell w g i v,hb.set_ i v⟩
end
end Go.Proofs.YtkpooenofjdpmaaGreat
namespace Go.Proofs.YtkpooenofjdpmaaGreat
open Go.Proofs.Tryz (prog)
open Go.RowKit
def B1 (w:World) (base:Nat) (e:TypeId) (A:Option Addr) (n c:Nat) (xs:List Value):Prop:=
 xs.length=n∧n≤c∧c≤maxLen∧∃ g off cs,A=some ⟨g,off,none⟩∧base≤g∧Blk w g e cs∧off+c≤cs.size∧(cs.toList.drop off).take n=xs
section
variable {P:Program} {Q:Exit→Act→World→Prop} {n:Fr} {L:List (Nat×Value)} {w:World} {l:List Oper}
def AK (P:Program) (n:Fr) (Inv:(Nat→Bool)→List (Nat×Value)→World→Prop):Nat→List Oper→Prop
 |_,[]=>True
 |i,o::r=>(∀ S L' w',Inv S L' w'→S i=false→iY S o.after.toList→gL P n o (Inv (dJ S i)) L' w')∧AK P n Inv (i+1) r
theorem zd {T:List (Nat×Nat×Value)} {S:Nat→Bool} {L':List (Nat×Value)} (hU:k9 T) (hS:∀ p∈T,S p.1=true) (hI:iO L T S L'):mkA n L'=mkA n (T.map (fun p=>(p.2.1,p.2.2))++L):=by
 unfold mkA;rw [j7 fun t _=>sk hU hI hS t]
end
theorem o4 {P:Program} {ρ:Operand→Value} {w:World} {s x:Operand} {t base:Nat} {A A2:Option Addr} {m j cap c2 e size by_:Nat} {z:Value} {xs news:List Value} (hq:kD P t=some (e,size,by_,z)) (hzs:z.cells.size=size) (hs0:0<size)
 (hs:ρ s=.slice A m cap) (hown:w.ownsRow base e size (.slice A m cap) m xs) (hB:base≤w.heap.size)
 (hx:ρ x=.slice A2 j c2) (hl:news.length=j*size) (hsrc:∃ b o,A2=some ⟨b,o,none⟩∧w.rangeAt b o news) (h1:∀ u∈news,u.oneCell'=true) (h63:m+j≤9223372036854775807) (hby:(m+j)*by_≤140737488355328) :
 ∃ A' cap' w',RO P ρ (.call { callee:=.builtin .append,args:=#[s,x],argTypes:=#[t,t] }) w (.slice A' (m+j) cap') w'∧w'.ownsRow base e size (.slice A' (m+j) cap') (m+j) (xs++news)∧w.grownBy w' (A.map (·.block))∧(A'.map (·.block)=A.map (·.block)∨A'.map (·.block)=some w.heap.size):=by
 obtain ⟨i,hu,hi,hsz,hb,hz⟩:=qY hq;obtain ⟨b,o,rfl,hr⟩:=hsrc;have hobl:∀ (A:Option Addr) (m c:Nat),(Value.slice A m c).ownBlock=A.map (·.block):=fun A m c=>by cases A <;> rfl
 obtain ⟨v',w',hrun,hown',hg,_,h5⟩:=run_append_own_at (P:=P) w base t 0 e i z size by_ hu hi hz hsz hb hzs hs0 _ m xs hown ⟨b,o,none⟩ j c2 news hl (fun i u hu=>by rw [Addr.add_mid];exact hr i u hu) h1 (by unfold maxLen;omega) hby hB;obtain ⟨A',cap',rfl⟩:=fk hown';rw [hobl,hobl] at h5;refine ⟨A',cap',w',fun dst ty pos after g=>?_,hown',by rw [←hobl A m cap];exact hg,h5⟩;have hty:(Builtin.append_ #[t,t] ty #[.slice A m cap,.slice (some ⟨b,o,none⟩) j c2]).run P w=(Builtin.append_ #[t,t] 0 #[.slice A m cap,.slice (some ⟨b,o,none⟩) j c2]).run P w:=rfl;unfold execOp;simp only [resolve,invoke,builtin,Sem.run_bind,Sem.run_pure,Result.andThen_ok,List.map_toArray,List.map_cons,List.map_nil,hs,hx,hty,hrun]
end Go.Proofs.YtkpooenofjdpmaaGreat
namespace Go.Proofs.YtkpooenofjdpmaaGreat
open Go.Proofs.Tryz (prog)
open Go.RowKit Go.ChangeShapes Go.WideShapes Go.ChangeAt
def BU (A B:Option Addr):Prop:=∀ p,A.map (·.block)=some p→∀ q,B.map (·.block)=some q→p≠q
theorem sc {w:World} {base e s n c:Nat} {xs:List Value} (h:w.ownsRow base e s (.slice none n c) n xs):c=0:=by
 rcases h.2 with ⟨h1,_⟩ | ⟨g,cap,cur,hv,_⟩
 ·simp only [Value.slice.injEq] at h1;omega
 ·simp only [Value.slice.injEq] at hv;cases hv.1
theorem qo {w:World} {base e s n c:Nat} {xs:List Value} (h:w.ownsRow base e s (.slice none n c) n xs):n=0:=by
 rcases h.2 with ⟨h1,_⟩ | ⟨g,cap,cur,hv,_⟩
 ·simp only [Value.slice.injEq] at h1;omega
 ·simp only [Value.slice.injEq] at hv;cases hv.1
section
variable {P:Program} {ops:Array Oper} {Q:Exit→Act→World→Prop} {rest:List Oper} {n:Fr} {L:List (Nat×Value)} {w:World} {ty:TypeId} {pos:String} {after:Array Edge} {d:Nat} {t:TypeId} {s x y:Operand}
theorem tr {base:Nat} {A A2:Option Addr} {m j cap c2 e size by_:Nat} {z:Value} {xs news:List Value} (hq:kD P t=some (e,size,by_,z)) (hzs:z.cells.size=size) (hs0:0<size)
 (hs:ev n L s=.slice A m cap) (hown:w.ownsRow base e size (.slice A m cap) m xs) (hB:base≤w.heap.size)
 (hx:ev n L x=.slice A2 j c2) (hl:news.length=j*size) (hsrc:∃ b o,A2=some ⟨b,o,none⟩∧w.rangeAt b o news) (h1:∀ u∈news,u.oneCell'=true) (h63:m+j≤9223372036854775807) (hby:(m+j)*by_≤140737488355328)
 (k:∀ A' cap' w',w'.ownsRow base e size (.slice A' (m+j) cap') (m+j) (xs++news)→w.grownBy w' (A.map (·.block))→(A'.map (·.block)=A.map (·.block)∨A'.map (·.block)=some w.heap.size)→St P ops Q rest n ((d,.slice A' (m+j) cap')::L) w') :
 St P ops Q (⟨some d,.call { callee:=.builtin .append,args:=#[s,x],argTypes:=#[t,t] },ty,pos,after,none⟩::rest) n L w:=by
 obtain ⟨A',cap',w',hR,h2,h3,h4⟩:=o4 (P:=P) (ρ:=ev n L) (s:=s) (x:=x) (w:=w) hq hzs hs0 hs hown hB hx hl hsrc h1 h63 hby;exact aa hR (k A' cap' w' h2 h3 h4)
end
end Go.Proofs.YtkpooenofjdpmaaGreat
namespace Go.Proofs.YtkpooenofjdpmaaGreat
open Go.Proofs.Tryz (prog)
open Go.RowKit Go.ChangeShapes Go.WideShapes Go.ChangeAt
structure Chg (U:Nat→Prop) (w w':World):Prop where
 os:w'.os=w.os
 tape:w'.tape=w.tape
 output:w'.output=w.output
 size:w.heap.size≤w'.heap.size
 block:∀ k,k<w.heap.size→¬ U k→w'.heap[k]? =w.heap[k]?
section
variable {U V:Nat→Prop} {a w w' w2:World}
theorem Chg.rfl_:Chg U w w:=⟨rfl,rfl,rfl,Nat.le_refl _,fun _ _ _=>rfl⟩
theorem ah.toChg (h:ah w w'):Chg U w w':=⟨h.os,h.tape,h.output,h.size,fun k hk _=>h.block k hk⟩
theorem e_.toChg {g:Nat} (h:e_ g w w') (hg:U g):Chg U w w':=⟨h.os,h.tape,h.output,Nat.le_of_eq h.size.symm,fun k _ hu=>h.block k (fun e=>hu (e ▸ hg))⟩
theorem Chg.of_grown {r:Option Nat} (h:w.grownBy w' r) (hr:∀ k,r=some k→U k):Chg U w w':=⟨h.os,h.tape,h.output,h.size,fun k hk hu=>h.block k hk (fun e=>hu (hr k e.symm))⟩
theorem Chg.trans (h:Chg U w w') (k:Chg V w' w2) (hV:∀ i,V i→U i∨w.heap.size≤i):Chg U w w2:=⟨k.os.trans h.os,k.tape.trans h.tape,k.output.trans h.output,Nat.le_trans h.size k.size,fun i hi hu=>by
 refine (k.block i (Nat.lt_of_lt_of_le hi h.size) fun hv=>?_).trans (h.block i hi hu);rcases hV i hv with e | e
 ·exact hu e
 ·omega⟩
theorem Chg.next (h:Chg U w w') (k:Chg U w' w2):Chg U w w2:=h.trans k fun _ h=>.inl h
theorem Chg.wide (h:Chg U w w') (hV:∀ i,U i→V i∨w.heap.size≤i):Chg V w w':=(Chg.rfl_ (U:=V)).trans h hV
theorem ah.chg (h:ah a w) (c:Chg U w w') (hU:∀ k,U k→a.heap.size≤k):ah a w':=⟨c.os.trans h.os,c.tape.trans h.tape,c.output.trans h.output,Nat.le_trans h.size c.size,fun k hk=>(c.block k (Nat.lt_of_lt_of_le hk h.size) (fun hu=>by have:=hU k hu;omega)).trans (h.block k hk)⟩
theorem Blk.chg {g:Nat} {t:TypeId} {cs:Array Value} (h:Blk w g t cs) (c:Chg U w w') (hg:¬ U g):Blk w' g t cs:=(c.block g h.lt hg).trans h
theorem eJ {base e s n c:Nat} {A:Option Addr} {xs:List Value} (h:w.ownsRow base e s (.slice A n c) n xs) (hc:Chg U w w') (hA:∀ q,A.map (·.block)=some q→¬ U q):w'.ownsRow base e s (.slice A n c) n xs:=by
 refine ⟨h.1,?_⟩;rcases h.2 with h0 | ⟨g,cap,cur,h1,h2,h3,h4⟩
 ·exact .inl h0
 ·refine .inr ⟨g,cap,cur,h1,h2,?_,h4⟩;simp only [Value.slice.injEq] at h1;obtain ⟨rfl,_,_⟩:=h1
  have hlt:g<w.heap.size:=by
   rcases Nat.lt_or_ge g w.heap.size with a | a
   ·exact a
   ·rw [Array.getElem?_eq_none a] at h3;cases h3
  exact (hc.block g hlt (hA g rfl)).trans h3
end
def BW (w w':World) (n:Nat):World:={ w' with heap:=w'.heap.mapIdx fun i o=>if i<n then o else (w.heap[i]?).getD o }
end Go.Proofs.YtkpooenofjdpmaaGreat
namespace Go.Proofs.YtkpooenofjdpmaaGreat
open Go.Proofs.Tryz (prog)
open Go.RowKit
open Go.ChangeShapes Go.WideShapes Go.ChangeAt
open Go.RowKit
def BJ (w:World) (base:Nat) (e s:Nat) (A:Option Addr) (n c:Nat) (xs:List Value):Prop:=
 xs.length=n*s∧n≤c∧c≤maxLen∧((A=none∧n=0∧c=0)∨∃ g off cs,A=some ⟨g,off,none⟩∧base≤g∧Blk w g e cs∧off+c*s≤cs.size∧(cs.toList.drop off).take (n*s)=xs)
abbrev B3 (w:World) (base:Nat) (A:Option Addr) (n c:Nat) (es:List Ent):Prop:=BJ w base 99 3 A n c (cN es)
theorem xX {w:World} {b:Nat} {e:Ent} (h:Blk w b 99 #[.int .i64 e.i,.int .i64 e.t,.string e.d]):bX w (.slice (some ⟨b,0,none⟩) 1 1) [e]:=
 ⟨some ⟨b,0,none⟩,1,rfl,Nat.le_refl _,by decide,fun h=>(by cases h),fun _=>⟨b,0,rfl,h.lt,fun i hi=>by
  obtain rfl:i=0:=by have:i<1:=hi;omega
  exact ⟨by rw [h.cell];rfl,by rw [h.cell];rfl,by rw [h.cell];rfl⟩⟩⟩
structure Msg where
 k:Int
 f:Int
 t:Int
 tm:Int
 ix:Int
 lt:Int
 cm:Int
 rd:Int
 ok:Bool
 a:Int
 d:ByteArray
 dn:Bool
 E:Option Addr
 c:Nat
 es:List Ent
def bH (x:Msg):List Value:=[.int .i64 x.k,.int .i64 x.f,.int .i64 x.t,.int .i64 x.tm,.int .i64 x.ix,.int .i64 x.lt,.int .i64 x.cm,.int .i64 x.rd,.bool x.ok,.slice x.E x.es.length x.c,.int .i64 x.a,.string x.d,.bool x.dn]
theorem oD (x:Msg):(bH x).length=13:=rfl
def pl (x:Msg):Msg:={ x with E:=none,c:=0 }
end Go.Proofs.YtkpooenofjdpmaaGreat
namespace Go.Proofs.YtkpooenofjdpmaaGreat
open Go.Proofs.Tryz (prog)
open Go.RowKit
def leB (x y:Int):Bool:=decide (x≤y)
def srt (L:List Int):List Int:=L.mergeSort leB
def cnt (L:List Int) (x:Int):Nat:=L.countP fun y=>decide (x≤y)
def med (L:List Int):Int:=(srt L).getD ((L.length-1)/2) 0
def Fit (L:List Int):Prop:=1≤L.length∧L.length≤7∧∀ x∈L,0≤x
theorem oS (L:List Int):(srt L).Perm L:=List.mergeSort_perm L leB
theorem qP (L:List Int):(srt L).length=L.length:=(oS L).length_eq
theorem xI {L:List Int} (h:1≤L.length):∃ h2:(L.length-1)/2<(srt L).length,med L=(srt L)[(L.length-1)/2]:=by
 have h2:(L.length-1)/2<(srt L).length:=by rw [qP];omega
 refine ⟨h2,?_⟩;unfold med;rw [List.getD_eq_getElem?_getD,List.getElem?_eq_getElem h2];rfl
theorem uO {L:List Int} (h:1≤L.length):med L∈L:=by
 obtain ⟨h2,e⟩:=xI h;rw [e];exact (oS L).mem_iff.1 (List.getElem_mem _)
def cv (V:List Int) (n:Nat):Nat:=(List.range n).countP fun i=>decide (((i+1:Nat):Int)∈V)
theorem u1 (V:List Int) (j:Nat):cv V (j+1)=cv V j+if ((j+1:Nat):Int)∈V then 1 else 0:=by
 unfold cv;rw [List.range_succ,List.countP_append];simp [List.countP_cons]
theorem Bi (V:List Int) (n:Nat):cv V n≤n:=by
 have:=List.countP_le_length (p:=fun i:Nat=>decide (((i+1:Nat):Int)∈V)) (l:=List.range n);rw [List.length_range] at this;exact this
theorem lC {V:List Int} {k:Nat} (h:k<V.length) (x:Int):x∈V.take (k+1)↔x∈V.take k∨x=V[k]:=by
 rw [List.take_add_one,List.getElem?_eq_getElem h,List.mem_append];simp only [Option.toList,List.mem_singleton]
theorem oH {V:List Int} {k n:Nat} (h:k<V.length) (hx:¬ (1≤V[k]∧V[k]≤n)∨V[k]∈V.take k):cv (V.take (k+1)) n=cv (V.take k) n:=by
 unfold cv;apply List.countP_congr;intro i hi;rw [List.mem_range] at hi;simp only [decide_eq_true_eq,lC h];constructor
 ·rintro (h1 | h1)
  ·exact h1
  ·rcases hx with h2 | h2
   ·omega
   ·rw [h1];exact h2
 ·exact .inl
theorem x8 {V:List Int} {k:Nat} (h:k<V.length) (hx:V[k] ∉ V.take k):∀ n:Nat,1≤V[k]→V[k]≤n→cv (V.take (k+1)) n=cv (V.take k) n+1
 |0,h1,h2=>by omega
 |n+1,h1,h2=>by
  rw [u1,u1];by_cases he:V[k]=((n+1:Nat):Int)
  ·rw [if_pos ((lC h _).2 (.inr he.symm)),if_neg (by rw [←he];exact hx),oH h (.inl (by omega))]
  ·rw [x8 h hx n h1 (by omega)]
   have:((n+1:Nat):Int)∈V.take (k+1)↔((n+1:Nat):Int)∈V.take k:=by
    rw [lC h];exact ⟨fun hh=>hh.elim id fun e=>absurd e.symm he,.inl⟩
   simp only [this];omega
def vt (V:List Int) (n i:Nat):Bool:=decide (1≤i∧i≤n∧(i:Int)∈V)
def mj (V:List Int) (n:Nat):List Value:=(List.range 8).map fun i=>.bool (vt V n i)
theorem rN (V:List Int) (n i:Nat) (h:i<8):(mj V n).toArray[0+i*1]? =some (.bool (vt V n i)):=by
 unfold mj;simp [h]
theorem mU {V:List Int} {k n:Nat} (h:k<V.length) (hx:¬ (1≤V[k]∧V[k]≤n)∨V[k]∈V.take k):mj (V.take (k+1)) n=mj (V.take k) n:=by
 unfold mj;apply List.map_congr_left;intro i _
 congr 1
 unfold vt;rw [decide_eq_decide,lC h];constructor
 ·rintro ⟨h1,h2,h3 | h3⟩
  ·exact ⟨h1,h2,h3⟩
  ·rcases hx with h4 | h4
   ·omega
   ·exact ⟨h1,h2,by rw [h3];exact h4⟩
 ·rintro ⟨h1,h2,h3⟩;exact ⟨h1,h2,.inl h3⟩
theorem wt {V:List Int} {k n:Nat} (h:k<V.length) (h1:1≤V[k]) (h2:V[k]≤n) (hn:n≤7):(mj (V.take k) n).toArray.setIfInBounds (0+V[k].toNat*1) (.bool true)=(mj (V.take (k+1)) n).toArray:=by
 apply Array.ext_getElem?;intro i;rw [Array.getElem?_setIfInBounds];by_cases hi:i<8
 ·have g:=fun U=>rN U n i hi
  rw [Nat.zero_add,Nat.mul_one] at g;rw [g,g];by_cases he:0+V[k].toNat*1=i
  ·rw [if_pos he,if_pos (by unfold mj;simp;omega)]
   congr 2
   symm;unfold vt;rw [decide_eq_true_eq,lC h];exact ⟨by omega,by omega,.inr (by omega)⟩
  ·rw [if_neg he]
   congr 2
   unfold vt;rw [decide_eq_decide,lC h];constructor
   ·rintro ⟨a,b,c⟩;exact ⟨a,b,.inl c⟩
   ·rintro ⟨a,b,c | c⟩
    ·exact ⟨a,b,c⟩
    ·omega
 ·have:∀ U,(mj U n).toArray[i]? =none:=fun U=>by unfold mj;simp;omega
  rw [this,this,if_neg (by omega)]
theorem wq (n:Nat):mj [] n=[.bool false,.bool false,.bool false,.bool false,.bool false,.bool false,.bool false,.bool false]:=by
 unfold mj vt;simp [List.range_succ]
def xsh (s:Int) (m:Int):Int:=bits BinOp.xor IntKind.u64 s (IntKind.u64.wrap (s*m))
def xsr (s:Int):Int:=bits BinOp.xor IntKind.u64 s (s/128)
def nx (s:Int):Int:=xsh (xsr (xsh (if s=0 then 11400714819323198485 else s) 8192)) 131072
def Bz (s:Int):Nat→Int
 |0=>s
 |1=>xsh s 8192
 |2=>xsr (xsh s 8192)
 |_=>xsh (xsr (xsh s 8192)) 131072
theorem Am (s:Int) (b:Nat) (w:World) (h0:w.cell? ⟨b,0,none⟩=some (.int .i64 13)) (h1:w.cell? ⟨b,1,none⟩=some (.int .i64 (-7))) (h2:w.cell? ⟨b,2,none⟩=some (.int .i64 17)) :
 Calls prog 173 #[.int .u64 s,.slice (some ⟨b,0,none⟩) 3 3] w fun e w'=>e=.returned (.int .u64 (xsh (xsr (xsh s 8192)) 131072))∧w=w':=by
 go_enter Tryz.func173,Tryz.ntmps173
 go_wp2
 go_loop [0,9] (fun x i=>∃ k:Nat,k≤3∧i=.int .i64 k∧x=.int .u64 (Bz s k)) (fun _ i=>3-(intOf i).toNat)
 case atStart=>exact ⟨0,by omega,rfl,rfl⟩
 case round=>
  obtain ⟨k,hk,rfl,rfl⟩:=hrel;obtain rfl | rfl | rfl | rfl:k=0∨k=1∨k=2∨k=3:=by omega
  ·go_wp2
   go_round
   case rel=>exact ⟨1,by omega,rfl,rfl⟩
   case measure=>simp [intOf]
  ·go_wp2
   go_round
   case rel=>exact ⟨2,by omega,rfl,rfl⟩
   case measure=>simp [intOf]
  ·go_wp2
   go_round
   case rel=>exact ⟨3,by omega,rfl,rfl⟩
   case measure=>simp [intOf]
  ·go_wp2
   go_ret
   exact ⟨rfl,rfl⟩
def st0 (s:Int):Int:=if s=0 then 11400714819323198485 else s
theorem xy (s:Int) (w:World) :
 Calls prog 159 #[.int .u64 s] w fun e w'=>e=.returned (.agg #[.int .u64 (st0 s)])∧ah w w':=by
 by_cases hs:s=0
 ·subst hs
  go_enter Tryz.func159,Tryz.ntmps159
  go_wp2
  exact bodyPost_ret (v:=.agg #[.int .u64 11400714819323198485]) (by simp [results,Tryz.results159,go_sem]) rfl ⟨rfl,ah.rfl_.new _⟩
 ·have hs':(s==0)=false:=by simpa using hs
  go_enter Tryz.func159,Tryz.ntmps159
  go_wp2
  exact bodyPost_ret (v:=.agg #[.int .u64 s]) (by simp [results,Tryz.results159,go_sem]) rfl ⟨by simp [st0,hs],ah.rfl_.new _⟩
theorem AS (s:Int) (w:World) :
 Calls prog 160 #[.agg #[.int .u64 s]] w fun e w'=>e=.returned (.agg #[.int .u64 (xsh (xsr (xsh s 8192)) 131072)])∧ah w w':=by
 go_enter Tryz.func160,Tryz.ntmps160
 go_wp2_with (first
  |(go_at_call 173
    refine (Am _ _ _ ?_ ?_ ?_).mono ?_
    ·go_simp
    ·go_simp
    ·go_simp
    rintro e w1 ⟨rfl,rfl⟩))
 exact bodyPost_ret (v:=.agg #[.int .u64 (xsh (xsr (xsh s 8192)) 131072)]) (by simp [results,Tryz.results160,go_sem]) rfl ⟨rfl,((ah.rfl_.new _).new _).new _⟩
theorem next (s:Int) (w:World) :
 Calls prog 130 #[.int .u64 s] w fun e w'=>e=.returned (.int .u64 (nx s))∧ah w w':=by
 have hfd:∀ (a:Int) (w:World),(Instr.field 171 (.agg #[.int .u64 a]) 0).run prog w=.ok (.int .u64 a) w:=fun _ _=>by kernel_rfl
 go_enter Tryz.func130,Tryz.ntmps130
 go_wp2_with (first | (go_at_call 159;refine (xy _ _).mono ?_;rintro e w1 ⟨rfl,hb1⟩) | (go_at_call 160;refine (AS _ _).mono ?_;rintro e w2 ⟨rfl,hb2⟩))
 go_ret
 exact ⟨rfl,hb1.next hb2⟩
def bl (s n:Int):Int:=if n<1 then 0 else wrap64 ((nx s).tmod n)
theorem zQ {s n:Int} (h:1≤n):bl s n=wrap64 ((nx s).tmod n):=by unfold bl;rw [if_neg (by omega)]
theorem below (s n:Int) (w:World) (hn:n≤9223372036854775807) :
 Calls prog 94 #[.int .u64 s,.int .i64 n] w fun e w'=>e=.returned (.tuple #[.int .u64 (nx s),.int .i64 (bl s n)])∧ah w w':=by
 by_cases h:n<1
 ·go_enter Tryz.func94,Tryz.ntmps94
  go_wp2_with (go_at_call 130;refine (next _ _).mono ?_;rintro e w1 ⟨rfl,hb1⟩)
  go_ret2
  exact ⟨by simp [bl,h],hb1⟩
 ·have h1:1≤n:=by omega
  have hz:(n==0)=false:=by simp;omega
  go_enter Tryz.func94,Tryz.ntmps94
  go_wp2_with (go_at_call 130;refine (next _ _).mono ?_;rintro e w1 ⟨rfl,hb1⟩)
  go_quiet (fail)
  go_wp2
  go_ret2
  exact ⟨by rw [zQ h1];rfl,hb1.dn _⟩
end Go.Proofs.YtkpooenofjdpmaaGreat
namespace Go.Proofs.YtkpooenofjdpmaaGreat
open Go.Proofs.Tryz (prog)
open Go.RowKit
open Go.ChangeShapes Go.WideShapes Go.ChangeAt
open Go.RowKit
structure Rd where
 id:Int
 ix:Int
 rn:Int
 acks:List Int
structure Rf where
 id:Int
 nodes:Int
 role:Int
 term:Int
 vote:Int
 leader:Int
 b:Int
 t:Int
 es:List Ent
 snap:ByteArray
 commit:Int
 elapsed:Int
 timeout:Int
 seed:Int
 votes:List Int
 next:List Int
 mtch:List Int
 sent:List Int
 round:Int
 reads:List Rd
 part:ByteArray
 partOf:Int
def zR:Rf:=⟨0,0,0,0,0,0,0,0,[],⟨#[]⟩,0,0,0,0,[],[],[],[],0,[],⟨#[]⟩,0⟩
def zM:Msg:={ k:=0,f:=0,t:=0,tm:=0,ix:=0,lt:=0,cm:=0,rd:=0,ok:=false,a:=0,d:=⟨#[]⟩,dn:=false,E:=none,c:=0,es:=[] }
def eT:Int:=1099511627775
def gB:List Int→Bool
 |a::b::r=>decide (a<b)&&gB (b::r)
 |_=>true
def fE (l:List Int) (n:Int):Bool:=l.all (fun x=>decide (1≤x)&&decide (x≤n))&&gB l
def qB (l:List Int) (n:Nat) (lo hi:Int):Bool:=decide (l.length=n)&&l.all fun x=>decide (lo≤x)&&decide (x≤hi)
def g_ (s:Rf) (q:Rd):Bool:=inb 1 1099511627776 q.id&&inb 0 s.commit q.ix&&inb 0 s.round q.rn&&fE q.acks s.nodes
def gy (s:Rf):Nat:=if s.role=2 then s.nodes.toNat else 0
def bn (s:Rf):Int:=dy s.b s.es
def iB (s:Rf):Bool:=
 decide (1≤s.nodes)&&decide (s.nodes≤7)&&inb 1 s.nodes s.id&&inb 0 2 s.role&&inb 0 eT s.term&&inb 0 s.nodes s.vote&&inb 0 s.nodes s.leader&&bR s.b s.t s.es&&decide (s.snap.size≤524288)&&(decide (s.b≠0)||decide (s.snap.size=0))&&
 inb 0 eT s.elapsed&&inb 0 eT s.timeout&&inb 0 eT s.round&&fE s.votes s.nodes&&decide (di s.t s.es≤s.term)&&inb s.b (bn s) s.commit&&decide (s.part.size≤524288)&&inb 0 1099511625728 s.partOf&&(decide (s.partOf≠0)||decide (s.part.size=0))&&
 qB s.next (gy s) 1 (bn s+1)&&qB s.mtch (gy s) 0 (bn s)&&qB s.sent (gy s) 0 s.snap.size&&decide (s.reads.length≤32)&&(decide (gy s≠0)||decide (s.reads.length=0))&&s.reads.all (g_ s)
structure Sp where
 s:Rf
 out:List Msg
def at1 (l:List Int) (id:Int):Int:=l.getD (id-1).toNat 0
def eP (l:List Int) (id v:Int):List Int:=l.set (id-1).toNat v
def iN (s:Rf):Rf:={ s with seed:=nx s.seed,timeout:=10+bl s.seed 10,elapsed:=0 }
def sh (id n seed:Int):Rf:=iN { zR with id:=id,nodes:=n,seed:=seed }
def fF (s:Rf):Rf:={ s with votes:=[],next:=[],mtch:=[],sent:=[],reads:=[] }
def cH (s:Rf) (tm:Int):Rf:=
 let a:={ fF s with role:=0,leader:=0 }
 if s.term<tm then { a with term:=tm,vote:=0,part:=⟨#[]⟩,partOf:=0 } else a
def sv (s:Rf) (m:Msg):Msg:={ m with f:=s.id,tm:=s.term }
def Sp.tell (p:Sp) (m:Msg):Sp:=⟨p.s,p.out++[sv p.s m]⟩
def kQ (s:Rf) (to:Int):Msg:=
 let nx:=at1 s.next to
 if nx≤s.b then
  let a:=at1 s.sent to
  let e:=min (a.toNat+1024) s.snap.size
  { zM with k:=5,t:=to,ix:=s.b,lt:=s.t,rd:=s.round,a:=a,d:=s.snap.extract a.toNat e,dn:=decide (e=s.snap.size) }
 else { zM with k:=3,t:=to,ix:=nx-1,lt:=dw s.b s.t s.es (nx-1),cm:=s.commit,rd:=s.round,es:=(s.es.drop (nx-1-s.b).toNat).take 16 }
def dE (s:Rf):List Int:=((List.range s.nodes.toNat).map fun k=>((k+1:Nat):Int)).filter fun k=>decide (k≠s.id)
def Sp.send (p:Sp) (to:Int):Sp:=p.tell (kQ p.s to)
def Sp.sends:Sp→List Int→Sp
 |p,[]=>p
 |p,x::r=>Sp.sends (p.send x) r
def Sp.all (p:Sp):Sp:=p.sends (dE p.s)
def fv (n:Int) (l:List Int):Bool:=decide (n.toNat<2*cv l n.toNat)
def dB (s:Rf):Rf:=
 let m:=eP s.mtch s.id (bn s)
 let i:=med m
 { s with mtch:=m,commit:=if s.commit<i∧dw s.b s.t s.es i=s.term then i else s.commit }
def ia (s:Rf):Bool:=decide (s.es.length=512)||decide (bn s=1099511627776)
def fI (s:Rf) (d:ByteArray):Rf:={ s with es:=s.es++[⟨bn s+1,s.term,d⟩] }
def mI (p:Sp):Sp:=
 if ia p.s then ⟨cH p.s p.s.term,p.out⟩ else
 let l:=bn p.s
 let a:={ fF p.s with role:=2,leader:=p.s.id,elapsed:=0,next:=List.replicate p.s.nodes.toNat (l+1),mtch:=List.replicate p.s.nodes.toNat 0,sent:=List.replicate p.s.nodes.toNat 0 }
 let q:=Sp.all ⟨fI a ⟨#[]⟩,p.out⟩
 ⟨dB q.s,q.out⟩
def kC (p:Sp):Sp:=if fv p.s.nodes p.s.votes then mI p else p
def jt (s:Rf):Sp:=
 if s.term=eT then ⟨iN s,[]⟩ else
 let a:=iN { fF s with term:=s.term+1,vote:=s.id,role:=1,leader:=0,votes:=[s.id],part:=⟨#[]⟩,partOf:=0 }
 kC ((dE a).foldl (fun (p:Sp) k=>p.tell { zM with k:=1,t:=k,ix:=bn a,lt:=di a.t a.es }) (⟨a,[]⟩:Sp))
def iP (s:Rf):Sp:=
 let a:={ s with elapsed:=min (s.elapsed+1) eT }
 if s.role=2 then (if 2≤a.elapsed then Sp.all ⟨{ a with elapsed:=0,round:=min (a.round+1) eT },[]⟩ else ⟨a,[]⟩)
 else if a.timeout≤a.elapsed then jt a else ⟨a,[]⟩
def kL (l:List Int) (x:Int):List Int:=if l.contains x then l else l.takeWhile (fun y=>decide (y<x))++x::l.dropWhile fun y=>decide (y<x)
def mn (p:Sp) (m:Msg) (ok:Bool) (i:Int):Sp:=p.tell { zM with k:=4,t:=m.f,ok:=ok,ix:=i,rd:=m.rd }
def wx (s:Rf) (m:Msg):Sp:=
 let ok:=By s.b s.t s.es m.ix m.lt&&(decide (s.vote=0)||decide (s.vote=m.f))
 Sp.tell ⟨if ok then { s with vote:=m.f,elapsed:=0 } else s,[]⟩ { zM with k:=2,t:=m.f,ok:=ok }
def tn (s:Rf) (m:Msg):Sp:=if s.role=1∧m.ok=true then kC ⟨{ s with votes:=kL s.votes m.f },[]⟩ else ⟨s,[]⟩
def yn (s:Rf) (id rn:Int):Rf:={ s with reads:=s.reads.map fun q=>if q.rn≤rn then { q with acks:=kL q.acks id } else q }
def wy (s0:Rf) (m:Msg):Sp:=
 if s0.role≠2 then ⟨s0,[]⟩ else
 let s:=yn s0 m.f m.rd
 if m.k=6 then
  (if m.ix=s.b∧at1 s.next m.f≤s.b∧m.a≤s.snap.size then Sp.send ⟨{ s with sent:=eP s.sent m.f m.a },[]⟩ m.f else ⟨s,[]⟩)
 else if m.ok=false then
  Sp.send ⟨{ s with next:=eP s.next m.f (max (min (at1 s.next m.f-1) (m.ix+1)) (at1 s.mtch m.f+1)),sent:=eP s.sent m.f 0 },[]⟩ m.f
 else if m.ix≤bn s then
  let x:=max (at1 s.mtch m.f) m.ix
  let a:=dB { s with mtch:=eP s.mtch m.f x,next:=eP s.next m.f (x+1),sent:=eP s.sent m.f 0 }
  if x+1≤bn s then Sp.send ⟨a,[]⟩ m.f else ⟨a,[]⟩
 else ⟨s,[]⟩
def xj (s:Rf) (m:Msg):Sp:=
 if m.ix≤s.commit∨m.lt<dw s.b s.t s.es s.commit then mn ⟨s,[]⟩ m true s.commit else
 let a:=if s.partOf≠m.ix then { s with partOf:=m.ix,part:=⟨#[]⟩ } else s
 let fits:=decide (m.a=a.part.size)&&decide (a.part.size+m.d.size≤524288)
 let c:=if fits then { a with part:=a.part++m.d } else a
 if fits&&m.dn then
  let keep:=decide (m.ix≤bn c∧dw c.b c.t c.es m.ix=m.lt)
  let x:={ c with b:=m.ix,t:=m.lt,es:=if keep then c.es.drop (m.ix-c.b).toNat else [],snap:=c.part,commit:=m.ix,part:=⟨#[]⟩,partOf:=0 }
  mn ⟨x,[]⟩ m true x.commit
 else Sp.tell ⟨c,[]⟩ { zM with k:=6,t:=m.f,ix:=m.ix,a:=c.part.size,rd:=m.rd }
def Bj (s:Rf) (i:Int) (d:ByteArray):Rf:={ s with b:=i,t:=dw s.b s.t s.es i,es:=s.es.drop (i-s.b).toNat,snap:=d,sent:=s.sent.map fun _=>0 }
def AU (s:Rf) (d:ByteArray):Sp:=
 let a:=fI s d
 let p:=((dE a).filter fun k=>decide (at1 a.next k=bn a)).foldl (fun (p:Sp) k=>p.send k) (⟨a,[]⟩:Sp)
 ⟨dB p.s,p.out⟩
def BL (s:Rf) (id:Int):Sp:=Sp.all ⟨{ s with round:=s.round+1,reads:=s.reads++[⟨id,s.commit,s.round+1,[s.id]⟩] },[]⟩
def Bx (s:Rf):Rf×List Rd:=({ s with reads:=s.reads.filter fun q=> !fv s.nodes q.acks },s.reads.filter fun q=>fv s.nodes q.acks)
def iC (s:Rf) (m:Msg):Bool:=match dz s.b s.t s.es (er s.b m.ix m.es) with
 |[]=>false
 |e::_=>decide (e.i≤bn s)&&decide (e.i≤s.commit)
def gg (s:Rf) (m:Msg):Sp:=
 let r:=dL s.b s.t m.ix m.lt s.es m.es
 if r.1≠0 then ⟨s,[]⟩
 else if r.2.1=true then mn ⟨s,[]⟩ m false (max 0 (min (m.ix-1) (bn s)))
 else if iC s m then ⟨s,[]⟩
 else
  let j:=max (m.ix+(m.es.length:Int)) s.b
  mn ⟨{ s with es:=r.2.2,commit:=max s.commit (min m.cm j) },[]⟩ m true j
def gr (s:Rf) (m:Msg):Sp:=
 if m.k=1 then Sp.tell ⟨s,[]⟩ { zM with k:=2,t:=m.f } else if m.k=3∨m.k=5 then mn ⟨s,[]⟩ m false 0 else ⟨s,[]⟩
def nR (s:Rf) (m:Msg):Sp:=
 if s.role=2 then ⟨s,[]⟩ else
 let c:=if s.role=1 then cH s s.term else s
 let d:={ c with leader:=m.f,elapsed:=0 }
 if m.k=3 then gg d m else xj d m
def cT (s:Rf) (m:Msg):Sp:=
 let a:=if s.term<m.tm then cH s m.tm else s
 if m.tm<a.term then gr a m
 else if m.k=1 then wx a m
 else if m.k=2 then tn a m
 else if m.k=3∨m.k=5 then nR a m
 else wy a m
def vK (s:Rf) (m:Msg):Bool:=decide (m.t=s.id)&&decide (m.f≠s.id)&&decide (m.f≤s.nodes)&&(!(decide (m.k=3)||decide (m.k=5))||(decide (m.lt≤m.tm)&&m.es.all fun e=>decide (e.t≤m.tm)))
theorem fJ (s:Rf) (tm:Int):(cH s tm).term=max s.term tm:=by
 unfold cH fF;simp only;split
 ·show tm=_;omega
 ·show s.term=_;omega
theorem im (s:Rf) (tm:Int):(cH s tm).b=s.b∧(cH s tm).t=s.t∧(cH s tm).es=s.es∧(cH s tm).id=s.id∧(cH s tm).nodes=s.nodes∧(cH s tm).role=0∧(cH s tm).commit=s.commit:=by
 unfold cH fF;simp only;split <;> exact ⟨rfl,rfl,rfl,rfl,rfl,rfl,rfl⟩
theorem nL {a:Int} {l:List Int} (h:gB (a::l)=true):gB l=true:=by
 cases l with
 |nil=>rfl
 |cons b r=>simp only [gB,Bool.and_eq_true] at h;exact h.2
theorem qn {a:Int} {l:List Int} (h:gB (a::l)=true):∀ x∈l,a<x:=by
 induction l generalizing a with
 |nil=>intro x hx;cases hx
 |cons b r ih=>
  intro x hx;simp only [gB,Bool.and_eq_true,decide_eq_true_eq] at h;rcases List.mem_cons.1 hx with e | e
  ·omega
  ·have:=ih h.2 x e;omega
structure RfF (s:Rf):Prop where
 n:1≤s.nodes∧s.nodes≤7
 i:1≤s.id∧s.id≤s.nodes
 ro:0≤s.role∧s.role≤2
 te:0≤s.term∧s.term≤1099511627775
 vo:0≤s.vote∧s.vote≤s.nodes
 le:0≤s.leader∧s.leader≤s.nodes
 lg:bR s.b s.t s.es=true
 sn:s.snap.size≤524288
 sb:s.b≠0∨s.snap.size=0
 el:0≤s.elapsed∧s.elapsed≤1099511627775
 ti:0≤s.timeout∧s.timeout≤1099511627775
 rn:0≤s.round∧s.round≤1099511627775
 vs:fE s.votes s.nodes=true
 lt:di s.t s.es≤s.term
 co:s.b≤s.commit∧s.commit≤bn s
 pa:s.part.size≤524288
 po:0≤s.partOf∧s.partOf≤1099511625728
 pp:s.partOf≠0∨s.part.size=0
 nx:s.next.length=gy s∧∀ x∈s.next,1≤x∧x≤bn s+1
 ma:s.mtch.length=gy s∧∀ x∈s.mtch,0≤x∧x≤bn s
 se:s.sent.length=gy s∧∀ x∈s.sent,0≤x∧x≤(s.snap.size:Int)
 rl:s.reads.length≤32
 r0:gy s≠0∨s.reads.length=0
 rd:∀ q∈s.reads,g_ s q=true
theorem rb {l:List Int} {n:Nat} {lo hi:Int} (h:qB l n lo hi=true):l.length=n∧∀ x∈l,lo≤x∧x≤hi:=by
 unfold qB at h;simp only [Bool.and_eq_true,List.all_eq_true,decide_eq_true_eq] at h;exact h
theorem nq {s:Rf} (h:iB s=true):RfF s:=by
 unfold iB eT at h;simp only [Bool.and_eq_true,Bool.or_eq_true,decide_eq_true_eq,List.all_eq_true] at h;obtain ⟨⟨⟨⟨⟨⟨⟨⟨⟨⟨⟨⟨⟨⟨⟨⟨⟨⟨⟨⟨⟨⟨⟨⟨h1,h2⟩,h3⟩,h4⟩,h5⟩,h6⟩,h7⟩,h8⟩,h9⟩,h10⟩,h11⟩,h12⟩,h13⟩,h14⟩,h15⟩,h16⟩,h17⟩,h18⟩,h19⟩,h20⟩,h21⟩,h22⟩,h23⟩,h24⟩,h25⟩:=h;exact ⟨⟨h1,h2⟩,dk h3,dk h4,dk h5,dk h6,dk h7,h8,h9,h10,dk h11,dk h12,dk h13,h14,h15,dk h16,h17,dk h18,h19,rb h20,rb h21,rb h22,h23,h24,h25⟩
theorem jN {s:Rf} (h:s.role=2):gy s=s.nodes.toNat:=by unfold gy;rw [if_pos h]
theorem oF {s:Rf} (h:s.role≠2):gy s=0:=by unfold gy;rw [if_neg h]
theorem RfF.free {s:Rf} (h:RfF s) (hr:s.role≠2):s.next=[]∧s.mtch=[]∧s.sent=[]∧s.reads=[]:=by
 have h0:=oF hr;refine ⟨List.eq_nil_of_length_eq_zero (by rw [h.nx.1,h0]),List.eq_nil_of_length_eq_zero (by rw [h.ma.1,h0]),List.eq_nil_of_length_eq_zero (by rw [h.se.1,h0]),List.eq_nil_of_length_eq_zero (h.r0.resolve_left fun e=>e h0)⟩
theorem mD {l:List Int} {n:Int} (h:fE l n=true):(∀ x∈l,1≤x∧x≤n)∧gB l=true:=by
 unfold fE at h;simp only [Bool.and_eq_true,List.all_eq_true,decide_eq_true_eq] at h;exact h
theorem lA:∀ (l:List Int) (a b:Int),gB l=true→(∀ x∈l,a<x∧x≤b)→(l.length:Int)≤max 0 (b-a)
 |[],_,_,_,_=>by simp;omega
 |x::r,a,b,h,hx=>by
  have h1:=lA r x b (nL h) fun y hy=>⟨qn h y hy,(hx y (List.mem_cons_of_mem _ hy)).2⟩
  have h2:=hx x (List.mem_cons_self);rw [List.length_cons];omega
theorem RfF.vl {s:Rf} (h:RfF s):s.votes.length≤7:=by
 have h1:=mD h.vs;have h2:=lA s.votes 0 s.nodes h1.2 fun x hx=>⟨by have:=(h1.1 x hx).1;omega,(h1.1 x hx).2⟩
 have:=h.n.2;omega
theorem ss (B:Int) (e:Ent) (r:List Ent):dy B (e::r)=dy e.i r:=by
 unfold dy;cases r with
 |nil=>rfl
 |cons a s=>
  rw [List.getLast?_cons_cons];cases h:(a::s).getLast? with
  |none=>simp at h
  |some x=>rfl
theorem kV (T:Int) (e:Ent) (r:List Ent):di T (e::r)=di e.t r:=by
 unfold di;cases r with
 |nil=>rfl
 |cons a s=>
  rw [List.getLast?_cons_cons];cases h:(a::s).getLast? with
  |none=>simp at h
  |some x=>rfl
theorem qi:∀ (xs:List Ent) (p t:Int) (e:Ent),dm xs p t=true→fL e (dy p xs) (di t xs)=true→dm (xs++[e]) p t=true
 |[],p,t,e,_,h=>by show (fL e p t&&true)=true;rw [Bool.and_true];exact h
 |x::r,p,t,e,h,he=>by
  have h':(fL x p t&&dm r (p+1) x.t)=true:=h;rw [Bool.and_eq_true] at h'
  have hx:x.i=p+1:=by
   have:=h'.1;unfold fL at this;simp only [Bool.and_eq_true,decide_eq_true_eq] at this;exact this.1.1.1
  rw [ss,kV,hx] at he;show (fL x p t&&dm (r++[e]) (p+1) x.t)=true;rw [h'.1,qi r _ _ e h'.2 he];rfl
theorem RfF.add {s:Rf} (h:RfF s) (hf:ia s=false) (d:ByteArray) (hd:d.size≤4096):bR s.b s.t (fI s d).es=true∧bn (fI s d)=bn s+1∧(fI s d).es.length=s.es.length+1:=by
 have hl:=dZ h.lg;have hm:=h.lg;unfold bR at hm;simp only [Bool.and_eq_true,decide_eq_true_eq] at hm;obtain ⟨⟨⟨m1,m2⟩,m3⟩,m4⟩:=hm;unfold ia at hf;simp only [Bool.or_eq_false_iff,decide_eq_false_iff_not] at hf;have hte:=h.te;have hlt:=h.lt;have hlr:bn s=s.b+s.es.length:=hl.1
 have e1:fL ⟨bn s+1,s.term,d⟩ (dy s.b s.es) (di s.t s.es)=true:=by
  unfold fL;simp only [Bool.and_eq_true,decide_eq_true_eq];exact ⟨⟨⟨rfl,eu ⟨by show 1≤bn s+1;omega,by show bn s+1≤_;omega⟩⟩,eu ⟨by show max (di s.t s.es) 0≤s.term;omega,hte.2⟩⟩,hd⟩
 have hr:=qi s.es s.b s.t _ m4 e1;have hlen:(fI s d).es.length=s.es.length+1:=by unfold fI;simp
 have hmay:bR s.b s.t (fI s d).es=true:=by
  unfold bR;simp only [Bool.and_eq_true,decide_eq_true_eq];exact ⟨⟨⟨m1,m2⟩,by rw [hlen];omega⟩,hr⟩
 refine ⟨hmay,?_,hlen⟩;have:=(dZ hmay).1;show dy s.b (fI s d).es=_;rw [this,hlen,hlr];omega
def j6 (id:Int) (k:Nat):List Int:=((List.range k).map fun j=>((j+1:Nat):Int)).filter fun j=>decide (j≠id)
theorem qs (id:Int) (k:Nat):j6 id (k+1)=if ((k+1:Nat):Int)=id then j6 id k else j6 id k++[((k+1:Nat):Int)]:=by
 unfold j6;rw [List.range_succ,List.map_append,List.filter_append];by_cases h:((k+1:Nat):Int)=id
 ·rw [if_pos h];simp;omega
 ·rw [if_neg h];simp;omega
theorem xu {id:Int} {k:Nat} {x:Int} (h:x∈j6 id k):1≤x∧x≤(k:Int)∧x≠id:=by
 unfold j6 at h;simp only [List.mem_filter,List.mem_map,List.mem_range,decide_eq_true_eq] at h;obtain ⟨⟨j,hj,rfl⟩,h2⟩:=h;exact ⟨by omega,by omega,h2⟩
theorem qh:∀ (l r:List Int) (p:Sp),p.sends (l++r)=(p.sends l).sends r
 |[],_,_=>rfl
 |x::l,r,p=>qh l r (p.send x)
theorem kP:∀ (l:List Int) (p:Sp),p.sends l=⟨p.s,p.out++l.map fun k=>sv p.s (kQ p.s k)⟩
 |[],p=>by show p=_;rw [List.map_nil,List.append_nil]
 |x::l,p=>by
  show (p.send x).sends l=_;rw [kP l (p.send x)];show (⟨p.s,(p.out++[sv p.s (kQ p.s x)])++l.map fun k=>sv p.s (kQ p.s k)⟩:Sp)=_;rw [List.append_assoc];rfl
theorem nw (p:Sp):p.all=⟨p.s,p.out++(dE p.s).map fun k=>sv p.s (kQ p.s k)⟩:=kP _ _
structure Ra where
 E:Option Addr
 Ec:Nat
 V:Option Addr
 Vc:Nat
 X:Option Addr
 Xc:Nat
 M:Option Addr
 Mc:Nat
 S:Option Addr
 Sc:Nat
 Q:Option Addr
 Qc:Nat
 L:List (Rd×Option Addr×Nat)
def rdV (q:Rd×Option Addr×Nat):List Value:=[.int .i64 q.1.id,.int .i64 q.1.ix,.int .i64 q.1.rn,.slice q.2.1 q.1.acks.length q.2.2]
theorem jM (q:Rd×Option Addr×Nat):(rdV q).length=4:=rfl
theorem yV (L:List (Rd×Option Addr×Nat)):∀ u∈L.flatMap rdV,u.oneCell'=true:=xU (fun x _=>by simp [rdV,Value.oneCell'])
def rfV (s:Rf) (a:Ra):List Value:=[.int .i64 s.id,.int .i64 s.nodes,.int .i64 s.role,.int .i64 s.term,.int .i64 s.vote,.int .i64 s.leader,.int .i64 s.b,.int .i64 s.t,.slice a.E s.es.length a.Ec,.string s.snap,.int .i64 s.commit,.int .i64 s.elapsed,.int .i64 s.timeout,.int .u64 s.seed,.slice a.V s.votes.length a.Vc,.slice a.X s.next.length a.Xc,.slice a.M s.mtch.length a.Mc,.slice a.S s.sent.length a.Sc,.int .i64 s.round,.slice a.Q a.L.length a.Qc,.string s.part,.int .i64 s.partOf]
def a0:Ra:=⟨none,0,none,0,none,0,none,0,none,0,none,0,[]⟩
def IR (w:World) (A:Option Addr) (c:Nat) (l:List Int):Prop:=ey iV w A l∧l.length≤c∧c≤9223372036854775807∧(A=none→l.length=0∧c=0)
theorem IR.from_ {w w':World} {A:Option Addr} {c:Nat} {l:List Int} (h:IR w A c l) (hF:ah w w'):IR w' A c l:=⟨h.1.from_ hF,h.2⟩
theorem mC {w:World} {base e s n c:Nat} {A:Option Addr} {xs:List Value} (h:w.ownsRow base e s (.slice A n c) n xs):n≤c∧c≤9223372036854775807:=by
 rcases h.2 with ⟨h0,hx⟩ | ⟨g,cap,cur,hv,_,_,h3,h4,_⟩
 ·simp only [Value.slice.injEq] at h0;obtain ⟨_,rfl,rfl⟩:=h0;exact ⟨Nat.le_refl _,by omega⟩
 ·simp only [Value.slice.injEq] at hv;obtain ⟨_,_,rfl⟩:=hv;exact ⟨h3,h4⟩
theorem nh {w:World} {base c:Nat} {A:Option Addr} {l:List Int} (h:w.ownsRow base 3 1 (.slice A l.length c) l.length (l.map iV)):IR w A c l:=⟨(ey.own h).2,(mC h).1,(mC h).2,fun e=>by subst e;exact ⟨qo h,sc h⟩⟩
structure fo (w:World) (s:Rf) (a:Ra):Prop where
 e:bX w (.slice a.E s.es.length a.Ec) s.es
 v:IR w a.V a.Vc s.votes
 x:IR w a.X a.Xc s.next
 m:IR w a.M a.Mc s.mtch
 n:IR w a.S a.Sc s.sent
 r:a.L.map (fun q=>q.1)=s.reads
 q:iE 4 rdV w a.Q a.L
 qc:a.L.length≤a.Qc∧a.Qc≤9223372036854775807∧(a.Q=none→a.L.length=0∧a.Qc=0)
 k:∀ q∈a.L,IR w q.2.1 q.2.2 q.1.acks
theorem fo.from_ {w w':World} {s:Rf} {a:Ra} (h:fo w s a) (hF:ah w w'):fo w' s a:=
 ⟨h.e.from_ hF,h.v.from_ hF,h.x.from_ hF,h.m.from_ hF,h.n.from_ hF,h.r,h.q.from_ hF,h.qc,fun q hq=>(h.k q hq).from_ hF⟩
def Col (tag:Nat→Nat) (c:Nat) (A:Option Addr):Prop:=∀ k,A.map (·.block)=some k→tag k=c
theorem Col.none {tag:Nat→Nat} {c:Nat}:Col tag c none:=fun _ h=>by cases h
theorem Col.not {tag:Nat→Nat} {c d:Nat} {A:Option Addr} (h:Col tag c A) (hne:c≠d):∀ k,A.map (·.block)=some k→¬ tag k=d:=fun k hk e=>hne ((h k hk).symm.trans e)
def fS (n c:Nat) (tag:Nat→Nat):Nat→Nat:=fun k=>if k<n then tag k else c
theorem cW {n c k:Nat} {tag:Nat→Nat} (h:k<n):fS n c tag k=tag k:=if_pos h
theorem dQ {n c k:Nat} {tag:Nat→Nat} (h:n≤k):fS n c tag k=c:=if_neg (Nat.not_lt.2 h)
theorem Col.re {tag:Nat→Nat} {c d n:Nat} {A:Option Addr} (h:Col tag c A) (hB:∀ k,A.map (·.block)=some k→k<n):Col (fS n d tag) c A:=fun k hk=>(cW (hB k hk)).trans (h k hk)
theorem Col.new {tag:Nat→Nat} {c n:Nat} {A A':Option Addr} (h:Col tag c A) (hB:∀ k,A.map (·.block)=some k→k<n) (hA:∀ k,A'.map (·.block)=some k→A.map (·.block)=some k∨n≤k):Col (fS n c tag) c A':=fun k hk=>by
 rcases hA k hk with e | e
 ·exact (cW (hB k e)).trans (h k e)
 ·exact dQ e
theorem ej {w:World} {bs e s n c m:Nat} {A:Option Addr} {l:List Value} (h:w.ownsRow bs e s (.slice A n c) m l):∀ k,A.map (·.block)=some k→k<w.heap.size:=fun k hk=>(eN h k hk).2
structure cO (y:Nat) (w:World) (tag:Nat→Nat) (s:Rf) (a:Ra):Prop where
 e:y≠0→w.ownsRow 0 99 3 (.slice a.E s.es.length a.Ec) s.es.length (cN s.es)∧Col tag 0 a.E
 v:y≠1→w.ownsRow 0 3 1 (.slice a.V s.votes.length a.Vc) s.votes.length (s.votes.map iV)∧Col tag 1 a.V
 x:y≠2→w.ownsRow 0 3 1 (.slice a.X s.next.length a.Xc) s.next.length (s.next.map iV)∧Col tag 2 a.X
 m:y≠3→w.ownsRow 0 3 1 (.slice a.M s.mtch.length a.Mc) s.mtch.length (s.mtch.map iV)∧Col tag 3 a.M
 n:y≠4→w.ownsRow 0 3 1 (.slice a.S s.sent.length a.Sc) s.sent.length (s.sent.map iV)∧Col tag 4 a.S
 r:y≠5→a.L.map (fun q=>q.1)=s.reads
 q:y≠5→w.ownsRow 0 54 4 (.slice a.Q a.L.length a.Qc) a.L.length (a.L.flatMap rdV)∧Col tag 5 a.Q
 k:∀ (i:Nat) (h:i<a.L.length),y≠1001+2*i→w.ownsRow 0 3 1 (.slice a.L[i].2.1 a.L[i].1.acks.length a.L[i].2.2) a.L[i].1.acks.length (a.L[i].1.acks.map iV)∧Col tag (1001+2*i) a.L[i].2.1
abbrev bm (w:World) (tag:Nat→Nat) (s:Rf) (a:Ra):Prop:=cO 7 w tag s a
theorem ep {w w':World} {tag:Nat→Nat} {c d base e s n cc:Nat} {A:Option Addr} {xs:List Value} (hC:Chg (fun k=>tag k=c) w w') (hne:d≠c) (h:w.ownsRow base e s (.slice A n cc) n xs∧Col tag d A):w'.ownsRow base e s (.slice A n cc) n xs∧Col (fS w.heap.size c tag) d A:=
 ⟨eJ h.1 hC (h.2.not hne),h.2.re (ej h.1)⟩
theorem bm.but {w w':World} {c:Nat} {tag:Nat→Nat} {s:Rf} {a:Ra} (h:bm w tag s a) (hC:Chg (fun k=>tag k=c) w w'):cO c w' (fS w.heap.size c tag) s a:=
 ⟨fun hx=>ep hC hx.symm (h.e (by decide)),fun hx=>ep hC hx.symm (h.v (by decide)),fun hx=>ep hC hx.symm (h.x (by decide)),fun hx=>ep hC hx.symm (h.m (by decide)),fun hx=>ep hC hx.symm (h.n (by decide)),fun _=>h.r (by decide),fun hx=>ep hC hx.symm (h.q (by decide)),fun i hi hx=>ep hC hx.symm (h.k i hi (by omega))⟩
section
variable {w w':World} {tag:Nat→Nat} {s:Rf} {a:Ra}
theorem cO.log (h:cO 0 w tag s a) {A:Option Addr} {c n:Nat} {l:List Ent} (B T:Int) (hn:n=l.length) (ho:w.ownsRow 0 99 3 (.slice A n c) n (cN l)) (hc:Col tag 0 A):bm w tag { s with b:=B,t:=T,es:=l } { a with E:=A,Ec:=c }:=by
 subst hn;exact ⟨fun _=>⟨ho,hc⟩,fun _=>h.v (by decide),fun _=>h.x (by decide),fun _=>h.m (by decide),fun _=>h.n (by decide),fun _=>h.r (by decide),fun _=>h.q (by decide),fun i hi _=>h.k i hi (by omega)⟩
theorem cO.votes (h:cO 1 w tag s a) {A:Option Addr} {c n:Nat} {l:List Int} (hn:n=l.length) (ho:w.ownsRow 0 3 1 (.slice A n c) n (l.map iV)) (hc:Col tag 1 A):bm w tag { s with votes:=l } { a with V:=A,Vc:=c }:=by
 subst hn;exact ⟨fun _=>h.e (by decide),fun _=>⟨ho,hc⟩,fun _=>h.x (by decide),fun _=>h.m (by decide),fun _=>h.n (by decide),fun _=>h.r (by decide),fun _=>h.q (by decide),fun i hi _=>h.k i hi (by omega)⟩
theorem cO.next (h:cO 2 w tag s a) {A:Option Addr} {c n:Nat} {l:List Int} (hn:n=l.length) (ho:w.ownsRow 0 3 1 (.slice A n c) n (l.map iV)) (hc:Col tag 2 A):bm w tag { s with next:=l } { a with X:=A,Xc:=c }:=by
 subst hn;exact ⟨fun _=>h.e (by decide),fun _=>h.v (by decide),fun _=>⟨ho,hc⟩,fun _=>h.m (by decide),fun _=>h.n (by decide),fun _=>h.r (by decide),fun _=>h.q (by decide),fun i hi _=>h.k i hi (by omega)⟩
theorem cO.mtch (h:cO 3 w tag s a) {A:Option Addr} {c n:Nat} {l:List Int} (hn:n=l.length) (ho:w.ownsRow 0 3 1 (.slice A n c) n (l.map iV)) (hc:Col tag 3 A):bm w tag { s with mtch:=l } { a with M:=A,Mc:=c }:=by
 subst hn;exact ⟨fun _=>h.e (by decide),fun _=>h.v (by decide),fun _=>h.x (by decide),fun _=>⟨ho,hc⟩,fun _=>h.n (by decide),fun _=>h.r (by decide),fun _=>h.q (by decide),fun i hi _=>h.k i hi (by omega)⟩
theorem cO.sent (h:cO 4 w tag s a) {A:Option Addr} {c n:Nat} {l:List Int} (hn:n=l.length) (ho:w.ownsRow 0 3 1 (.slice A n c) n (l.map iV)) (hc:Col tag 4 A):bm w tag { s with sent:=l } { a with S:=A,Sc:=c }:=by
 subst hn;exact ⟨fun _=>h.e (by decide),fun _=>h.v (by decide),fun _=>h.x (by decide),fun _=>h.m (by decide),fun _=>⟨ho,hc⟩,fun _=>h.r (by decide),fun _=>h.q (by decide),fun i hi _=>h.k i hi (by omega)⟩
theorem dS {e s:Nat}:w.ownsRow 0 e s (.slice none 0 0) 0 []:=World.ownsRow_nil _ _ _ _
theorem bm.alone (h:bm w tag s a):bm w tag (fF s) { a0 with E:=a.E,Ec:=a.Ec }:=
 ⟨fun _=>h.e (by decide),fun _=>⟨dS,Col.none⟩,fun _=>⟨dS,Col.none⟩,fun _=>⟨dS,Col.none⟩,fun _=>⟨dS,Col.none⟩,fun _=>rfl,fun _=>⟨dS,Col.none⟩,fun i hi _=>absurd hi (Nat.not_lt_zero _)⟩
theorem bm.same {s':Rf} (h:bm w tag s a) (he:s'.es=s.es) (hv:s'.votes=s.votes) (hx:s'.next=s.next) (hm:s'.mtch=s.mtch) (hn:s'.sent=s.sent) (hr:s'.reads=s.reads):bm w tag s' a:=
 ⟨by rw [he];exact h.e,by rw [hv];exact h.v,by rw [hx];exact h.x,by rw [hm];exact h.m,by rw [hn];exact h.n,by rw [hr];exact h.r,h.q,h.k⟩
theorem bm.from_ (h:bm w tag s a) (hF:ah w w'):bm w' tag s a:=
 ⟨fun hx=>⟨(h.e hx).1.kept_from hF,(h.e hx).2⟩,fun hx=>⟨(h.v hx).1.kept_from hF,(h.v hx).2⟩,fun hx=>⟨(h.x hx).1.kept_from hF,(h.x hx).2⟩,fun hx=>⟨(h.m hx).1.kept_from hF,(h.m hx).2⟩,fun hx=>⟨(h.n hx).1.kept_from hF,(h.n hx).2⟩,h.r,fun hx=>⟨(h.q hx).1.kept_from hF,(h.q hx).2⟩,fun i hi hx=>⟨(h.k i hi hx).1.kept_from hF,(h.k i hi hx).2⟩⟩
theorem bm.re (h:bm w tag s a) (d:Nat):bm w (fS w.heap.size d tag) s a:=
 ⟨fun hx=>⟨(h.e hx).1,(h.e hx).2.re (ej (h.e hx).1)⟩,fun hx=>⟨(h.v hx).1,(h.v hx).2.re (ej (h.v hx).1)⟩,fun hx=>⟨(h.x hx).1,(h.x hx).2.re (ej (h.x hx).1)⟩,fun hx=>⟨(h.m hx).1,(h.m hx).2.re (ej (h.m hx).1)⟩,fun hx=>⟨(h.n hx).1,(h.n hx).2.re (ej (h.n hx).1)⟩,h.r,fun hx=>⟨(h.q hx).1,(h.q hx).2.re (ej (h.q hx).1)⟩,fun i hi hx=>⟨(h.k i hi hx).1,(h.k i hi hx).2.re (ej (h.k i hi hx).1)⟩⟩
theorem bm.rd (h:bm w tag s a):fo w s a:=
 ⟨bX.of_own (h.e (by decide)).1 rfl,nh (h.v (by decide)).1,nh (h.x (by decide)).1,nh (h.m (by decide)).1,nh (h.n (by decide)).1,h.r (by decide),(iE.own jM (by decide) (h.q (by decide)).1).2,⟨(mC (h.q (by decide)).1).1,(mC (h.q (by decide)).1).2,fun e=>by have h9:=(h.q (by decide)).1;rw [e] at h9;exact ⟨qo h9,sc h9⟩⟩,fun q hq=>by
  obtain ⟨i,hi,rfl⟩:=List.getElem_of_mem hq;exact nh (h.k i hi (by omega)).1⟩
theorem cO.reads (h:cO 5 w tag s a) {A:Option Addr} {c n:Nat} (hn:n=a.L.length) (ho:w.ownsRow 0 54 4 (.slice A n c) n (a.L.flatMap rdV)) (hc:Col tag 5 A):bm w tag { s with reads:=a.L.map (fun q=>q.1) } { a with Q:=A,Qc:=c }:=by
 subst hn;exact ⟨fun _=>h.e (by decide),fun _=>h.v (by decide),fun _=>h.x (by decide),fun _=>h.m (by decide),fun _=>h.n (by decide),fun _=>rfl,fun _=>⟨ho,hc⟩,fun i hi _=>h.k i hi (by omega)⟩
theorem cO.ack (h:cO 5 w tag s a) (hF:ah w w') {q:Rd} {A:Option Addr} {c:Nat} (ho:w'.ownsRow w.heap.size 3 1 (.slice A q.acks.length c) q.acks.length (q.acks.map iV)):cO 5 w' (fS w.heap.size (1001+2*a.L.length) tag) s { a with L:=a.L++[(q,A,c)] }:=by
 have re:∀ {d e s n cc:Nat} {A:Option Addr} {xs:List Value},w.ownsRow 0 e s (.slice A n cc) n xs∧Col tag d A→w'.ownsRow 0 e s (.slice A n cc) n xs∧Col (fS w.heap.size (1001+2*a.L.length) tag) d A:=fun h=>⟨h.1.kept_from hF,h.2.re (ej h.1)⟩
 refine ⟨fun _=>re (h.e (by decide)),fun _=>re (h.v (by decide)),fun _=>re (h.x (by decide)),fun _=>re (h.m (by decide)),fun _=>re (h.n (by decide)),fun e=>absurd rfl e,fun e=>absurd rfl e,fun i hi _=>?_⟩;by_cases hi':i<a.L.length
 ·simp only [List.getElem_append_left hi'];exact re (h.k i hi' (by omega))
 ·obtain rfl:i=a.L.length:=by simp only [List.length_append,List.length_singleton] at hi;omega
  simp only [List.getElem_append_right (Nat.le_refl _),Nat.sub_self,List.getElem_singleton];exact ⟨ec ho (Nat.zero_le _),fun k hk=>dQ (eN ho k hk).1⟩
theorem cO.five {g:Nat} (h:cO 5 w tag s a) (hO:e_ g w w') (hg:tag g=5):cO 5 w' tag s a:=by
 have re:∀ {d e s n cc:Nat} {A:Option Addr} {xs:List Value},d≠5→w.ownsRow 0 e s (.slice A n cc) n xs∧Col tag d A→w'.ownsRow 0 e s (.slice A n cc) n xs∧Col tag d A:=fun hd h=>⟨eY h.1 hO fun k hk e=>hd ((h.2 k hk).symm.trans (e ▸ hg)),h.2⟩
 exact ⟨fun _=>re (by decide) (h.e (by decide)),fun _=>re (by decide) (h.v (by decide)),fun _=>re (by decide) (h.x (by decide)),fun _=>re (by decide) (h.m (by decide)),fun _=>re (by decide) (h.n (by decide)),fun e=>absurd rfl e,fun e=>absurd rfl e,fun i hi _=>re (by omega) (h.k i hi (by omega))⟩
theorem cO.from_ {y:Nat} (h:cO y w tag s a) (hF:ah w w'):cO y w' tag s a:=
 ⟨fun hx=>⟨(h.e hx).1.kept_from hF,(h.e hx).2⟩,fun hx=>⟨(h.v hx).1.kept_from hF,(h.v hx).2⟩,fun hx=>⟨(h.x hx).1.kept_from hF,(h.x hx).2⟩,fun hx=>⟨(h.m hx).1.kept_from hF,(h.m hx).2⟩,fun hx=>⟨(h.n hx).1.kept_from hF,(h.n hx).2⟩,h.r,fun hx=>⟨(h.q hx).1.kept_from hF,(h.q hx).2⟩,fun i hi hx=>⟨(h.k i hi hx).1.kept_from hF,(h.k i hi hx).2⟩⟩
theorem bm.zero:bm w tag zR a0:=
 ⟨fun _=>⟨dS,Col.none⟩,fun _=>⟨dS,Col.none⟩,fun _=>⟨dS,Col.none⟩,fun _=>⟨dS,Col.none⟩,fun _=>⟨dS,Col.none⟩,fun _=>rfl,fun _=>⟨dS,Col.none⟩,fun _ hi _=>absurd hi (Nat.not_lt_zero _)⟩
end
structure eI (w:World) (tag:Nat→Nat) (out:List Msg) (O:Option Addr) (oc:Nat) (L:List Msg):Prop where
 o:w.ownsRow 0 39 13 (.slice O L.length oc) L.length (L.flatMap bH)
 l:L.map pl=out
 e:∀ (j:Nat) (h:j<L.length),w.ownsRow 0 99 3 (.slice L[j].E L[j].es.length L[j].c) L[j].es.length (cN L[j].es)∧Col tag (1000+2*j) L[j].E
 c:Col tag 6 O
def StC (c:Nat):Prop:=c≤5∨∃ i,c=1001+2*i
section
variable {w0 w w' w1 w2:World} {tag:Nat→Nat} {out:List Msg} {O:Option Addr} {oc c T g:Nat} {L:List Msg} {Z Z':Nat→Prop} {p p':Sp} {a a':Ra} {s':Rf}
theorem eI.chg (h:eI w tag out O oc L) (hC:Chg (fun k=>tag k=c) w w') (h6:6≠c) (hj:∀ j,j<L.length→1000+2*j≠c):eI w' (fS w.heap.size c tag) out O oc L:=
 ⟨(ep hC h6 ⟨h.o,h.c⟩).1,h.l,fun j hj'=>ep hC (hj j hj') (h.e j hj'),(ep hC h6 ⟨h.o,h.c⟩).2⟩
theorem eI.from_ (h:eI w tag out O oc L) (hF:ah w w'):eI w' tag out O oc L:=
 ⟨h.o.kept_from hF,h.l,fun j hj=>⟨(h.e j hj).1.kept_from hF,(h.e j hj).2⟩,h.c⟩
theorem eI.re (h:eI w tag out O oc L) (d:Nat):eI w (fS w.heap.size d tag) out O oc L:=
 ⟨h.o,h.l,fun j hj=>⟨(h.e j hj).1,(h.e j hj).2.re (ej (h.e j hj).1)⟩,h.c.re (ej h.o)⟩
theorem StC.six (h:StC c):6≠c:=by rcases h with h | ⟨i,h⟩ <;> omega
theorem StC.eight (h:StC c):8≠c:=by rcases h with h | ⟨i,h⟩ <;> omega
theorem StC.even (h:StC c) (j:Nat):1000+2*j≠c:=by rcases h with h | ⟨i,h⟩ <;> omega
structure gZ (w:World) (Z:Nat→Prop) (T g:Nat) (tag:Nat→Nat) (p:Sp) (a:Ra) (O:Option Addr) (oc:Nat) (L:List Msg):Prop where
 b:Blk w g T (rfV p.s a++[Value.slice O L.length oc]).toArray
 f:bm w tag p.s a
 m:eI w tag p.out O oc L
 gc:tag g=7
 z:∀ k,Z k→tag k=8
theorem gZ.from_ (h:gZ w Z T g tag p a O oc L) (hF:ah w w'):gZ w' Z T g tag p a O oc L:=⟨h.b.from_ hF,h.f.from_ hF,h.m.from_ hF,h.gc,h.z⟩
structure aZ (w0:World) (Z:Nat→Prop) (w:World) (T g:Nat) (p:Sp):Prop where
 ex:∃ tag a O oc L,gZ w Z T g tag p a O oc L
 zl:∀ k,Z k→k<w0.heap.size
 fr:Chg (fun k=>¬ Z k) w0 w
theorem aZ.from_ (h:aZ w0 Z w T g p) (hF:ah w w'):aZ w0 Z w' T g p:=by
 obtain ⟨tag,a,O,oc,L,hs⟩:=h.ex;exact ⟨⟨tag,a,O,oc,L,hs.from_ hF⟩,h.zl,h.fr.next hF.toChg⟩
theorem aZ.zw (h:aZ w0 Z w T g p):∀ k,Z k→k<w.heap.size:=fun k hk=>Nat.lt_of_lt_of_le (h.zl k hk) h.fr.size
theorem gZ.new (h:gZ w Z T g tag p a O oc L) (hZ:∀ k,Z k→k<w.heap.size) (hF:ah w w') (d:Nat):gZ w' Z T g (fS w.heap.size d tag) p a O oc L:=
 ⟨h.b.from_ hF,(h.f.re d).from_ hF,(h.m.re d).from_ hF,(cW h.b.lt).trans h.gc,fun k hk=>(cW (hZ k hk)).trans (h.z k hk)⟩
theorem aZ.at_ (h:aZ w0 Z w T g p) (hF:ah w w1) (hZ:∀ k,Z' k→k<w1.heap.size∧(Z k∨w.heap.size≤k)):aZ w1 Z' w1 T g p:=by
 obtain ⟨tag,a,O,oc,L,hs⟩:=h.ex;refine ⟨⟨fS w.heap.size 8 tag,a,O,oc,L,⟨hs.b.from_ hF,(hs.f.re 8).from_ hF,(hs.m.re 8).from_ hF,(cW hs.b.lt).trans hs.gc,fun k hk=>?_⟩⟩,fun k hk=>(hZ k hk).1,Chg.rfl_⟩;rcases Nat.lt_or_ge k w.heap.size with e | e
 ·rw [cW e];exact hs.z k ((hZ k hk).2.resolve_right (by omega))
 ·exact dQ e
theorem aZ.back (h:aZ w0 Z w T g p) (hF:ah w w1) (h':aZ w1 Z' w' T g p') (hZ:∀ k,Z k→Z' k):aZ w0 Z w' T g p':=by
 obtain ⟨tag,a,O,oc,L,hs⟩:=h'.ex;exact ⟨⟨tag,a,O,oc,L,⟨hs.b,hs.f,hs.m,hs.gc,fun k hk=>hs.z k (hZ k hk)⟩⟩,h.zl,(h.fr.next hF.toChg).next (h'.fr.wide fun k hk=>.inl fun e=>hk (hZ k e))⟩
theorem aZ.kept {k t:Nat} {cs:Array Value} (h:aZ w0 Z w T g p) (hk:Z k) (hb:Blk w0 k t cs):Blk w k t cs:=hb.chg h.fr fun e=>e hk
theorem gQ {w w':World} {tag:Nat→Nat} {g d base e s n cc:Nat} {A:Option Addr} {xs:List Value} (hC:Chg (fun k=>k=g) w w') (hg:tag g=7) (hd:d≠7) (h:w.ownsRow base e s (.slice A n cc) n xs∧Col tag d A):w'.ownsRow base e s (.slice A n cc) n xs∧Col tag d A:=
 ⟨eJ h.1 hC (fun k hk e=>hd ((h.2 k hk).symm.trans (by rw [show k=g from e];exact hg))),h.2⟩
theorem bm.chgG (h:bm w tag s' a) (hC:Chg (fun k=>k=g) w w') (hg:tag g=7):bm w' tag s' a:=
 ⟨fun hx=>gQ hC hg (by decide) (h.e hx),fun hx=>gQ hC hg (by decide) (h.v hx),fun hx=>gQ hC hg (by decide) (h.x hx),fun hx=>gQ hC hg (by decide) (h.m hx),fun hx=>gQ hC hg (by decide) (h.n hx),h.r,fun hx=>gQ hC hg (by decide) (h.q hx),fun i hi hx=>gQ hC hg (by omega) (h.k i hi hx)⟩
theorem eI.chgG (h:eI w tag out O oc L) (hC:Chg (fun k=>k=g) w w') (hg:tag g=7):eI w' tag out O oc L:=
 ⟨(gQ hC hg (by decide) ⟨h.o,h.c⟩).1,h.l,fun j hj=>gQ hC hg (by omega) (h.e j hj),h.c⟩
theorem aZ.put (h:aZ w0 Z w T g p) (hs:gZ w Z T g tag p a O oc L) (hC:Chg (fun k=>tag k=c) w w1) (hc:StC c) (hf:bm w1 (fS w.heap.size c tag) s' a') (hO:Chg (fun k=>k=g) w1 w2) (hb:Blk w2 g T (rfV s' a'++[Value.slice O L.length oc]).toArray):gZ w2 Z T g (fS w.heap.size c tag) ⟨s',p.out⟩ a' O oc L∧aZ w0 Z w2 T g ⟨s',p.out⟩:=by
 have hg:fS w.heap.size c tag g=7:=(cW hs.b.lt).trans hs.gc;have hz:∀ k,Z k→fS w.heap.size c tag k=8:=fun k hk=>(cW (Nat.lt_of_lt_of_le (h.zl k hk) h.fr.size)).trans (hs.z k hk)
 have h1:gZ w2 Z T g (fS w.heap.size c tag) ⟨s',p.out⟩ a' O oc L:=⟨hb,hf.chgG hO hg,(hs.m.chg hC hc.six (fun j _=>hc.even j)).chgG hO hg,hg,hz⟩;refine ⟨h1,⟨⟨_,_,_,_,_,h1⟩,h.zl,?_⟩⟩;refine (h.fr.next (hC.wide fun k hk=>.inl fun hz1=>?_)).next (hO.wide fun k hk=>.inl fun hz1=>?_)
 ·exact hc.eight ((hs.z k hz1).symm.trans hk)
 ·have:=hz k hz1;rw [show k=g from hk,hg] at this;cases this
theorem aZ.set (h:aZ w0 Z w T g p) (hs:gZ w Z T g tag p a O oc L) (hO:Chg (fun k=>k=g) w w2) (hf:bm w tag s' a') (hb:Blk w2 g T (rfV s' a'++[Value.slice O L.length oc]).toArray):gZ w2 Z T g tag ⟨s',p.out⟩ a' O oc L∧aZ w0 Z w2 T g ⟨s',p.out⟩:=by
 have h1:gZ w2 Z T g tag ⟨s',p.out⟩ a' O oc L:=⟨hb,hf.chgG hO hs.gc,hs.m.chgG hO hs.gc,hs.gc,hs.z⟩;refine ⟨h1,⟨⟨_,_,_,_,_,h1⟩,h.zl,h.fr.next (hO.wide fun k hk=>.inl fun hz1=>?_)⟩⟩;have:=hs.z k hz1;rw [show k=g from hk,hs.gc] at this;cases this
theorem cO.six (h:cO 6 w tag s' a):bm w tag s' a:=
 ⟨fun _=>h.e (by decide),fun _=>h.v (by decide),fun _=>h.x (by decide),fun _=>h.m (by decide),fun _=>h.n (by decide),fun _=>h.r (by decide),fun _=>h.q (by decide),fun i hi _=>h.k i hi (by omega)⟩
theorem aZ.push {w3:World} {O':Option Addr} {n' oc':Nat} {x:Msg} (h:aZ w0 Z w T g p) (hs:gZ w Z T g tag p a O oc L) (hE:w.ownsRow 0 99 3 (.slice x.E x.es.length x.c) x.es.length (cN x.es)∧Col tag (1000+2*L.length) x.E) (hF:ah w w1) (hG:w1.grownBy w2 (O.map (·.block)))
 (ho:w2.ownsRow 0 39 13 (.slice O' n' oc') n' (L.flatMap bH++bH x)) (hn:n'=L.length+1) (hL:∀ k,O'.map (·.block)=some k→O.map (·.block)=some k∨w.heap.size≤k) (hO:e_ g w2 w3) (hb:Blk w3 g T (rfV p.s a++[Value.slice O' n' oc']).toArray):aZ w0 Z w3 T g ⟨p.s,p.out++[pl x]⟩:=by
 subst hn;have hC:Chg (fun k=>tag k=6) w w2:=(ah.toChg hF).next (Chg.of_grown hG fun k hk=>hs.m.c k hk);have hg:fS w.heap.size 6 tag g=7:=(cW hs.b.lt).trans hs.gc;have hz:∀ k,Z k→fS w.heap.size 6 tag k=8:=fun k hk=>(cW (Nat.lt_of_lt_of_le (h.zl k hk) h.fr.size)).trans (hs.z k hk)
 have hm:eI w2 (fS w.heap.size 6 tag) (p.out++[pl x]) O' oc' (L++[x]):=by
  refine ⟨?_,by rw [List.map_append,hs.m.l];rfl,fun j hj=>?_,hs.m.c.new (ej hs.m.o) hL⟩
  ·rw [List.flatMap_append,List.length_append];simpa using ho
  ·by_cases hj':j<L.length
   ·rw [List.getElem_append_left hj'];exact ep hC (by omega) (hs.m.e j hj')
   ·have hj2:j=L.length:=by rw [List.length_append,List.length_singleton] at hj;omega
    subst hj2;rw [List.getElem_append_right (Nat.le_refl _)];simp only [Nat.sub_self,List.getElem_singleton];exact ep hC (by omega) hE
 have hO2:Chg (fun k=>k=g) w2 w3:=hO.toChg rfl;have h1:gZ w3 Z T g (fS w.heap.size 6 tag) ⟨p.s,p.out++[pl x]⟩ a O' oc' (L++[x]):=⟨by rw [List.length_append];exact hb,((hs.f.but hC).six).chgG hO2 hg,hm.chgG hO2 hg,hg,hz⟩;refine ⟨⟨_,_,_,_,_,h1⟩,h.zl,(h.fr.next (hC.wide fun k hk=>.inl fun hz1=>?_)).next (hO2.wide fun k hk=>.inl fun hz1=>?_)⟩
 ·have:=hs.z k hz1;rw [hk] at this;cases this
 ·have:=hz k hz1;rw [show k=g from hk,hg] at this;cases this
end
section
variable {P:Program} {ops:Array Oper} {Q:Exit→Act→World→Prop} {rest:List Oper} {n:Fr} {L:List (Nat×Value)} {w:World} {ty:TypeId} {pos:String} {after:Array Edge} {t:TypeId} {x y:Operand} {T g:Nat} {s s':Rf} {a a':Ra} {R:List Value}
theorem my (s:Rf) (a:Ra):(rfV s a).length=22:=rfl
theorem dK (hb:Blk w g T (rfV s a++R).toArray) (k:Nat) {v:Value} (h:(rfV s a)[k]? =some v):w.cell? ⟨g,k,none⟩=some v:=by
 rw [hb.cell,←h];have hk:k<(rfV s a).length:=(List.getElem?_eq_some_iff.1 h).1;simp only [List.getElem?_toArray];exact List.getElem?_append_left hk
theorem Ai {k:Nat} {v:Value} (hP:Blk w g T ((rfV s a++R).toArray.setIfInBounds k v)) (e:k<22∧(rfV s a).set k v=rfV s' a'):Blk w g T (rfV s' a'++R).toArray:=by
 rw [List.setIfInBounds_toArray,List.set_append_left _ _ (by rw [my];exact e.1),e.2] at hP;exact hP
theorem cK {k:Nat} {v:Value} (ht:ef P t=some 1) (hx:ev n L x=.pointer (some ⟨g,k,none⟩)) (hy:ev n L y=v) (h1:v.oneCell'=true) (hb:Blk w g T (rfV s a++R).toArray) (e:k<22∧(rfV s a).set k v=rfV s' a')
 (kk:∀ w',e_ g w w'→Blk w' g T (rfV s' a'++R).toArray→St P ops Q rest n L w'):St P ops Q (⟨none,.store t x y,ty,pos,after,none⟩::rest) n L w:=
 eE ht hx hy h1 hb (by have:=e.1;simp [my];omega) fun w' o b=>kk w' o (Ai b e)
theorem m_ {b t9:Int} {E:Option Addr} {n9 c:Nat} {es:List Ent} (hn:n9=es.length) (ht:ef P t=some 3) (hx:ev n L x=.pointer (some ⟨g,6,none⟩)) (hy:ev n L y=.agg #[.int .i64 b,.int .i64 t9,.slice E n9 c]) (hb:Blk w g T (rfV s a++R).toArray)
 (kk:∀ w',e_ g w w'→Blk w' g T (rfV { s with b:=b,t:=t9,es:=es } { a with E:=E,Ec:=c }++R).toArray→St P ops Q rest n L w'):St P ops Q (⟨none,.store t x y,ty,pos,after,none⟩::rest) n L w:=by
 subst hn;refine uD (vs:=[.int .i64 b,.int .i64 t9,.slice E es.length c]) ht hx hy (by simp [Value.oneCell']) hb (by simp [my];omega) fun w' o k=>kk w' o ?_
 have e:jo (rfV s a++R) 6 [.int .i64 b,.int .i64 t9,.slice E es.length c]=rfV { s with b:=b,t:=t9,es:=es } { a with E:=E,Ec:=c }++R:=rfl;rw [e] at k;exact k
theorem iM (hb:Blk w g T (rfV s a++R).toArray):w.rangeAt g 6 [.int .i64 s.b,.int .i64 s.t,.slice a.E s.es.length a.Ec]:=fun j v hv=>by
 match j,hv with
 |0,hv=>exact dK hb 6 hv
 |1,hv=>exact dK hb 7 hv
 |2,hv=>exact dK hb 8 hv
 |j+3,hv=>simp at hv
theorem ng (hb:Blk w g T (rfV s a++R).toArray):w.rangeAt g 0 (rfV s a):=fun j v hv=>by rw [Nat.zero_add];exact dK hb j hv
theorem pe {dst:Option Nat} {post:Value→World→Prop} {base:Nat} {A A2:Option Addr} {m j cap c2 e size by_:Nat} {z:Value} {xs news:List Value} (hq:kD P t=some (e,size,by_,z)) (hzs:z.cells.size=size) (hs0:0<size)
 (hs:ev n L x=.slice A m cap) (hown:w.ownsRow base e size (.slice A m cap) m xs) (hB:base≤w.heap.size)
 (hx:ev n L y=.slice A2 j c2) (hl:news.length=j*size) (hsrc:∃ b o,A2=some ⟨b,o,none⟩∧w.rangeAt b o news) (h1:∀ u∈news,u.oneCell'=true) (h63:m+j≤9223372036854775807) (hby:(m+j)*by_≤140737488355328)
 (k:∀ A' cap' w',w'.ownsRow base e size (.slice A' (m+j) cap') (m+j) (xs++news)→w.grownBy w' (A.map (·.block))→(∀ q,A'.map (·.block)=some q→A.map (·.block)=some q∨w.heap.size≤q)→post (.slice A' (m+j) cap') w') :
 we P ops n L ⟨dst,.call { callee:=.builtin .append,args:=#[x,y],argTypes:=#[t,t] },ty,pos,after,none⟩ w post:=by
 obtain ⟨A',cap',w',hr,ho,hg,hl⟩:=o4 (P:=P) (ρ:=ev n L) hq hzs hs0 hs hown hB hx hl hsrc h1 h63 hby;refine ⟨rfl,.inl ⟨_,w',hr _ _ _ _ _,k A' cap' w' ho hg fun q hq=>?_⟩⟩;rcases hl with e | e
 ·exact .inl (e ▸ hq)
 ·rw [e] at hq;cases hq;exact .inr (Nat.le_refl _)
theorem Chg.only {U:Nat→Prop} {w w1 w2:World} {g:Nat} (h:Chg U w w1) (o:e_ g w1 w2) (hg:U g):Chg U w w2:=h.next (o.toChg hg)
end
end Go.Proofs.YtkpooenofjdpmaaGreat
namespace Go.Proofs.YtkpooenofjdpmaaGreat
open Go.Proofs.Tryz (prog)
open Go.RowKit
open Go.ChangeShapes Go.WideShapes Go.ChangeAt
open Go.RowKit
theorem ph {s s':Rf} (hc:s.commit≤s'.commit) (hr:s.round≤s'.round) (hn:s'.nodes=s.nodes) {q:Rd} (h:g_ s q=true):g_ s' q=true:=by
 unfold g_ at h ⊢;simp only [Bool.and_eq_true] at h ⊢;obtain ⟨⟨⟨h1,h2⟩,h3⟩,h4⟩:=h;have h2':=dk h2;have h3':=dk h3;exact ⟨⟨⟨h1,eu (by omega)⟩,eu (by omega)⟩,by rw [hn];exact h4⟩
theorem RfF.elapse {s:Rf} (h:RfF s) {x:Int} (hx:0≤x∧x≤1099511627775):RfF { s with elapsed:=x }:={ h with el:=hx }
theorem RfF.beat {s:Rf} (h:RfF s) {x r:Int} (hx:0≤x∧x≤1099511627775) (hr:s.round≤r∧r≤1099511627775):RfF { s with elapsed:=x,round:=r }:=
 { h with el:=hx,rn:=by have h9:=h.rn;exact ⟨by show 0≤r;omega,hr.2⟩,rd:=fun q hq=>ph (s:=s) (s':={ s with elapsed:=x,round:=r }) (Int.le_refl _) hr.1 rfl (h.rd q hq) }
theorem z40:(0:Int)≤1099511627775:=by decide
theorem z11:(0:Int)≤1099511625728:=by decide
theorem z2:(0:Int)≤2:=by decide
theorem RfF.n0 {s:Rf} (h:RfF s):0≤s.nodes:=by have:=h.n;omega
theorem t_ (s:Int):-10<bl s 10∧bl s 10<10:=by
 rw [zQ (by decide)];have h1:=Int.tmod_lt_of_pos (nx s) (show (0:Int)<10 by decide);have h2:=Int.lt_tmod_of_pos (nx s) (show (0:Int)<10 by decide);rw [IntWalk.wrap64_in _ (by omega)];omega
theorem RfF.draws {s:Rf} (h:RfF s):RfF (iN s):=by
 have:=t_ s.seed;exact { h with el:=⟨Int.le_refl _,z40⟩,ti:=⟨by show 0≤10+bl s.seed 10;omega,by show 10+bl s.seed 10≤_;omega⟩ }
theorem RfF.alone {s:Rf} (h:RfF s) {r l:Int} (hr:r=0∨r=1) (hl:0≤l∧l≤s.nodes):RfF { fF s with role:=r,leader:=l }:=by
 have h0:gy { fF s with role:=r,leader:=l }=0:=oF (by show r≠2;omega);exact { n:=h.n,i:=h.i,ro:=by (show 0≤r∧r≤2);omega,te:=h.te,vo:=h.vo,le:=hl,lg:=h.lg,sn:=h.sn,sb:=h.sb,el:=h.el,ti:=h.ti,rn:=h.rn,vs:=rfl,lt:=h.lt,co:=h.co,pa:=h.pa,po:=h.po,pp:=h.pp,nx:=⟨h0.symm,fun x hx=>by cases hx⟩,ma:=⟨h0.symm,fun x hx=>by cases hx⟩,se:=⟨h0.symm,fun x hx=>by cases hx⟩,rl:=by (show 0≤32);decide,r0:=.inr rfl,rd:=fun q hq=>by cases hq }
theorem RfF.termed {s:Rf} (h:RfF s) {tm:Int} (ht:s.term≤tm∧tm≤1099511627775) {v:Int} (hv:0≤v∧v≤s.nodes):RfF { s with term:=tm,vote:=v,part:=⟨#[]⟩,partOf:=0 }:=
 { h with te:=by have:=h.te;exact ⟨by show 0≤tm;omega,ht.2⟩,vo:=hv,lt:=by have:=h.lt;show di s.t s.es≤tm;omega,pa:=by (show 0≤524288);decide,po:=⟨Int.le_refl _,z11⟩,pp:=.inr rfl }
theorem RfF.falls {s:Rf} (h:RfF s) {tm:Int} (ht:tm≤1099511627775):RfF (cH s tm):=by
 have h1:=h.alone (r:=0) (l:=0) (.inl rfl) ⟨Int.le_refl _,h.n0⟩;unfold cH;simp only;split
 ·rename_i h2;exact h1.termed (tm:=tm) (v:=0) ⟨by show s.term≤tm;omega,ht⟩ ⟨Int.le_refl _,h.n0⟩
 ·exact h1
theorem tB {n x:Int} (h:1≤x∧x≤n):fE [x] n=true:=by
 unfold fE;simp only [List.all_cons,List.all_nil,Bool.and_true,gB,Bool.and_eq_true,decide_eq_true_eq];exact h
def eh (s:Rf):Rf:=iN { fF s with term:=s.term+1,vote:=s.id,role:=1,leader:=0,votes:=[s.id],part:=⟨#[]⟩,partOf:=0 }
theorem RfF.cand {s:Rf} (h:RfF s) (ht:s.term≠eT):RfF (eh s):=by
 have h1:=h.alone (r:=1) (l:=0) (.inr rfl) ⟨Int.le_refl _,h.n0⟩;have hi:=h.i;have h2:=h1.termed (tm:=s.term+1) (v:=s.id) ⟨by show s.term≤s.term+1;omega,by have:=h.te;unfold eT at ht;omega⟩ ⟨by omega,hi.2⟩;exact RfF.draws { h2 with vs:=tB hi }
def eH (s:Rf):Rf:={ fF s with role:=2,leader:=s.id,elapsed:=0,next:=List.replicate s.nodes.toNat (bn s+1),mtch:=List.replicate s.nodes.toNat 0,sent:=List.replicate s.nodes.toNat 0 }
theorem RfF.last {s:Rf} (h:RfF s):bn s=s.b+s.es.length∧0≤s.b∧s.b≤bn s∧s.es.length≤512∧s.b≤1099511625728:=by
 obtain ⟨h1,h2,h3,h4⟩:=dZ h.lg;have h5:bn s=s.b+s.es.length:=h1;exact ⟨h5,h2,by omega,h4,h3⟩
theorem RfF.chief {s:Rf} (h:RfF s):RfF (eH s):=by
 have hl:=h.last;have hn:=h.n;have h0:gy (eH s)=s.nodes.toNat:=jN rfl;exact { n:=h.n,i:=h.i,ro:=⟨z2,Int.le_refl _⟩,te:=h.te,vo:=h.vo,le:=⟨by have:=h.i;show 0≤s.id;omega,h.i.2⟩,lg:=h.lg,sn:=h.sn,sb:=h.sb,el:=⟨Int.le_refl _,z40⟩,ti:=h.ti,rn:=h.rn,vs:=rfl,lt:=h.lt,co:=h.co,pa:=h.pa,po:=h.po,pp:=h.pp,nx:=⟨by rw [h0];exact List.length_replicate,fun x hx=>by rw [List.eq_of_mem_replicate hx];exact ⟨by omega,Int.le_refl _⟩⟩,ma:=⟨by rw [h0];exact List.length_replicate,fun x hx=>by rw [List.eq_of_mem_replicate hx];exact ⟨Int.le_refl _,by show 0≤bn s;omega⟩⟩,se:=⟨by rw [h0];exact List.length_replicate,fun x hx=>by rw [List.eq_of_mem_replicate hx];exact ⟨Int.le_refl _,by omega⟩⟩,rl:=by (show 0≤32);decide,r0:=.inr rfl,rd:=fun q hq=>by cases hq }
theorem tK (T:Int) (xs:List Ent) (e:Ent):di T (xs++[e])=e.t:=by unfold di;simp
theorem RfF.added {s:Rf} (h:RfF s) (hf:ia s=false) (d:ByteArray) (hd:d.size≤4096):RfF (fI s d)∧bn (fI s d)=bn s+1:=by
 obtain ⟨h1,h2,h3⟩:=h.add hf d hd;refine ⟨{ h with lg:=h1,lt:=by (show di s.t (s.es++[_])≤s.term);rw [tK];exact Int.le_refl _,co:=⟨h.co.1,by rw [h2];have:=h.co.2;show s.commit≤bn s+1;omega⟩,nx:=⟨h.nx.1,fun x hx=>by rw [h2];have:=h.nx.2 x hx;omega⟩,ma:=⟨h.ma.1,fun x hx=>by rw [h2];have:=h.ma.2 x hx;omega⟩ },h2⟩
theorem fT (l:List Int) (k v:Int):(eP l k v).length=l.length:=List.length_set
theorem xh {l:List Int} {k v x:Int} (h:x∈eP l k v):x∈l∨x=v:=List.mem_or_eq_of_mem_set h
theorem RfF.settle {s:Rf} (h:RfF s) (hr:s.role=2):RfF (dB s):=by
 have hl:=h.last;have hn:=h.n;have hm:(eP s.mtch s.id (bn s)).length=gy s:=by rw [fT];exact h.ma.1
 have hall:∀ x∈eP s.mtch s.id (bn s),0≤x∧x≤bn s:=fun x hx=>by
  rcases xh hx with e | e
  ·exact h.ma.2 x e
  ·omega
 have hmed:=hall _ (uO (L:=eP s.mtch s.id (bn s)) (by rw [hm,jN hr];omega));have hc:=h.co
 have hcm:s.commit≤(dB s).commit∧(dB s).commit≤bn s:=by
  unfold dB;simp only;split <;> omega
 exact { h with co:=⟨by have:=hcm.1;show s.b≤(dB s).commit;omega,hcm.2⟩,ma:=⟨hm,hall⟩,rd:=fun q hq=>ph (s:=s) (s':=dB s) hcm.1 (Int.le_refl _) rfl (h.rd q hq) }
theorem RfF.lead {s:Rf} (h:RfF s) (hf:ia s=false):RfF (fI (eH s) ⟨#[]⟩):=(h.chief.added hf ⟨#[]⟩ (by decide)).1
end Go.Proofs.YtkpooenofjdpmaaGreat
