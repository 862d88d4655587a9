/- texts that the claim stands on. -/
import Derived.Test.YtkpooenofjdpmaaGreatSlRfLawV55

set_option maxRecDepth 100000
set_option maxHeartbeats 4000000
namespace Go.Proofs.YtkpooenofjdpmaaGreat
open Go.Proofs.Tryz (prog)
open Go.RowKit
open Go.ChangeShapes Go.WideShapes Go.ChangeAt
theorem pf:∀ (a0:Int) (a1:Int),prog.built 24 [(0,.int .i64 a0),(1,.int .i64 a1)]=some #[.int .i64 a0,.int .i64 a1,.slice none 0 0]:=by intros;kernel_rfl
theorem uj:aQ prog 81=true:=by kernel_rfl
theorem fZ:∀ (a0:Int) (a1:Int) (a2:Int),prog.built 39 [(0,.int .i64 6),(4,.int .i64 a0),(10,.int .i64 a2),(7,.int .i64 a1)]=some #[.int .i64 6,.int .i64 0,.int .i64 0,.int .i64 0,.int .i64 a0,.int .i64 0,.int .i64 0,.int .i64 a1,.bool false,.slice none 0 0,.int .i64 a2,.string ⟨#[]⟩,.bool false]:=by intros;kernel_rfl
theorem sL:aQ prog 166=true:=by kernel_rfl
theorem sM:aQ prog 148=true:=by kernel_rfl
def cR (s:Rf):Rf:=if s.role=1 then cJ s s.term else s
def dR (s:Rf) (m:Msg):Rf:={ cR s with leader:=m.f,elapsed:=0 }
theorem Bi {s:Rf} (h:RfF s):RfF (cR s):=by
 unfold cR;split
 ·exact h.falls h.te.2
 ·exact h
theorem Ab (s:Rf):(cR s).nodes=s.nodes∧(cR s).id=s.id:=by
 unfold cR;split
 ·exact ⟨(h_ s s.term).2.2.2.2.1,(h_ s s.term).2.2.2.1⟩
 ·exact ⟨rfl,rfl⟩
theorem z_ {s:Rf} (h:RfF s) {m:Msg} (hf:1≤m.f∧m.f≤s.nodes):RfF (dR s m):=(Bi h).hear ⟨by omega,by rw [(Ab s).1];exact hf.2⟩
theorem vH {s:Rf} (h:s.role≠1):cR s=s:=if_neg h
theorem vI {s:Rf} (h:s.role=1):cR s=cJ s s.term:=if_pos h
theorem tA {s:Rf} {m:Msg} (h:s.role=2):nt s m=⟨s,[]⟩:=if_pos h
theorem oS {s:Rf} {m:Msg} (h:s.role≠2) (hk:m.k=5):nt s m=oH (dR s m) m:=by
 unfold nt;rw [if_neg h];simp only;rw [if_neg (by omega)];rfl
def pR (s:Rf) (m:Msg):Rf:=if s.partOf≠m.ix then { s with partOf:=m.ix,part:=⟨#[]⟩ } else s
theorem yE {s:Rf} {m:Msg} (h:s.partOf≠m.ix):pR s m={ s with partOf:=m.ix,part:=⟨#[]⟩ }:=if_pos h
theorem yF {s:Rf} {m:Msg} (h:s.partOf=m.ix):pR s m=s:=if_neg (fun e=>e h)
def gC (s:Rf) (m:Msg):Bool:=decide (m.a=s.part.size)&&decide (s.part.size+m.d.size≤524288)
def qR (s:Rf) (m:Msg) (b:Bool):Rf:=if b then { s with part:=s.part++m.d } else s
def iq (s:Rf) (i t:Int):Bool:=decide (i≤bm s∧de s.b s.t s.es i=t)
def jQ (s:Rf) (i t:Int):Rf:={ s with b:=i,t:=t,es:=if iq s i t then s.es.drop (i-s.b).toNat else [],snap:=s.part,commit:=i,part:=⟨#[]⟩,partOf:=0 }
def qa (s:Rf) (m:Msg):Sp:=
 if gC (pR s m) m&&m.dn then iI ⟨jQ (qR (pR s m) m (gC (pR s m) m)) m.ix m.lt,[]⟩ m true m.ix
 else Sp.tell ⟨qR (pR s m) m (gC (pR s m) m),[]⟩ { zM with k:=6,t:=m.f,ix:=m.ix,a:=(qR (pR s m) m (gC (pR s m) m)).part.size,rd:=m.rd }
theorem pX (x c l t:Int):x≤c∨(¬ x≤c∧l<t)∨(¬ x≤c∧¬ l<t):=by omega
theorem lZ {s:Rf} {m:Msg} (h:m.ix≤s.commit∨m.lt<de s.b s.t s.es s.commit):oH s m=iI ⟨s,[]⟩ m true s.commit:=if_pos h
theorem jL {s:Rf} {m:Msg} (h:¬ (m.ix≤s.commit∨m.lt<de s.b s.t s.es s.commit)):oH s m=qa s m:=if_neg h
theorem wP (s:Rf) (m:Msg):(pR s m).b=s.b∧(pR s m).t=s.t∧(pR s m).es=s.es∧(pR s m).commit=s.commit:=by
 unfold pR;split
 ·exact ⟨rfl,rfl,rfl,rfl⟩
 ·exact ⟨rfl,rfl,rfl,rfl⟩
theorem wN (s:Rf) (m:Msg) (b:Bool):(qR s m b).b=s.b∧(qR s m b).t=s.t∧(qR s m b).es=s.es∧(qR s m b).commit=s.commit:=by
 cases b
 ·exact ⟨rfl,rfl,rfl,rfl⟩
 ·exact ⟨rfl,rfl,rfl,rfl⟩
theorem uF {P:Program} {ρ:Operand→Value} {w:World} {t yt:TypeId} {x y:Operand} {a b:ByteArray} (hx:ρ x=.string a) (hy:ρ y=.string b) (h:a.size+b.size≤9223372036854775807):RO P ρ (.binOp .add t x y yt) w (.string (a++b)) w:=
 lI hx hy (by unfold eqGuard;rfl) (by rw [binOp_string_add];exact run_string_add_sum w a b h)
theorem oT (s:Rf) (m:Msg):m.a≠(s.part.size:Int)∨(m.a=(s.part.size:Int)∧¬ s.part.size+m.d.size≤524288)∨(m.a=(s.part.size:Int)∧s.part.size+m.d.size≤524288):=by omega
theorem xJ {s:Rf} {m:Msg} (h:m.a≠(s.part.size:Int)):gC s m=false:=by unfold gC;rw [decide_eq_false h];rfl
theorem xI {s:Rf} {m:Msg} (h:¬ s.part.size+m.d.size≤524288):gC s m=false:=by unfold gC;rw [decide_eq_false h,Bool.and_false]
theorem xH {s:Rf} {m:Msg} (h1:m.a=(s.part.size:Int)) (h2:s.part.size+m.d.size≤524288):gC s m=true:=by unfold gC;rw [decide_eq_true h1,decide_eq_true h2];rfl
theorem qK {s p u:Rf} {m:Msg} {b:Bool} (hp:p=pR s m) (hb:b=gC p m) (hu:u=qR p m b) (h:(b&&m.dn)=false):qa s m=Sp.tell ⟨u,[]⟩ { zM with k:=6,t:=m.f,ix:=m.ix,a:=u.part.size,rd:=m.rd }:=by
 subst hp hb hu;unfold qa;rw [if_neg (by rw [h];decide)]
theorem tO {s p u:Rf} {m:Msg} {b:Bool} (hp:p=pR s m) (hb:b=gC p m) (hu:u=qR p m b) (h:(b&&m.dn)=true):qa s m=iI ⟨jQ u m.ix m.lt,[]⟩ m true m.ix:=by
 subst hp hb hu;unfold qa;rw [if_pos h]
theorem nU {s:Rf} {i t:Int} (h1:i≤bm s) (h2:de s.b s.t s.es i=t):iq s i t=true:=decide_eq_true ⟨h1,h2⟩
theorem mh {s:Rf} {i t:Int} (h:¬ (i≤bm s∧de s.b s.t s.es i=t)):iq s i t=false:=decide_eq_false h
theorem rF {P:Program} {n:Fr} {L:List (Nat×Value)} {w w0:World} {Z:Nat→Prop} {t:TypeId} {x y:Operand} {T g k:Nat} {v:Value} {p:Sp} {s':Rf} (ht:ea P t=some 1) (hx:ev n L x=.pointer (some ⟨g,k,none⟩)) (hy:ev n L y=v) (h1:v.oneCell'=true) (h:aR w0 Z w T g p) (e:∀ a,k<22∧(rfV p.s a).set k v=rfV s' a)
 (hr:s'.es=p.s.es∧s'.votes=p.s.votes∧s'.next=p.s.next∧s'.mtch=p.s.mtch∧s'.sent=p.s.sent∧s'.reads=p.s.reads):∃ w',RS P (ev n L) (.store t x y) w w'∧eM g w w'∧aR w0 Z w' T g ⟨s',p.out⟩:=by
 obtain ⟨tag,a,O,oc,L1,hs⟩:=h.ex;obtain ⟨w',hR,hO,hb⟩:=gV (P:=P) (n:=n) (L:=L) ht hx hy h1 hs.b (by have:=(e a).1;simp [jy];omega);exact ⟨w',hR,hO,(h.set hs (hO.toChg rfl) (bo.same hs.f hr.1 hr.2.1 hr.2.2.1 hr.2.2.2.1 hr.2.2.2.2.1 hr.2.2.2.2.2) (wH hb (e a))).2⟩
theorem tb {P:Program} {n:Fr} {L:List (Nat×Value)} {w wa w0:World} {Z:Nat→Prop} {t:TypeId} {x y:Operand} {T g:Nat} {p:Sp} {b t9:Int} {E:Option Addr} {c:Nat} {es:List Ent} (ht:ea P t=some 3) (hx:ev n L x=.pointer (some ⟨g,6,none⟩)) (hy:ev n L y=.agg #[.int .i64 b,.int .i64 t9,.slice E es.length c]) (h:aR w0 Z wa T g p) (hF:ag wa w) (ho:w.ownsRow wa.heap.size 99 3 (.slice E es.length c) es.length (dT es)) :
 ∃ w',RS P (ev n L) (.store t x y) w w'∧eM g w w'∧aR w0 Z w' T g ⟨{ p.s with b:=b,t:=t9,es:=es },p.out⟩:=by
 obtain ⟨tag,a,O,oc,L1,hs⟩:=h.ex;have hb:=hs.b.from_ hF;have hR:=k8 (P:=P) (ρ:=ev n L) (cs:=[.int .i64 b,.int .i64 t9,.slice E es.length c]) ht hx hy (by simp [Value.oneCell']) (hb.there 6 3 (by simp [jy]));have hk:=Blk.sets [.int .i64 b,.int .i64 t9,.slice E es.length c] 6 hb (by simp [jy]);have e:iN (rfV p.s a++[Value.slice O L1.length oc]) 6 [.int .i64 b,.int .i64 t9,.slice E es.length c]=rfV { p.s with b:=b,t:=t9,es:=es } { a with E:=E,Ec:=c }++[Value.slice O L1.length oc]:=rfl;rw [e] at hk;exact ⟨_,hR,eM.sets _ 6 w,(h.put hs (ag.toChg hF) (.inl (by decide)) ((hs.f.but (c:=0) (ag.toChg hF)).log b t9 rfl (dW ho (Nat.zero_le _)) (fun q hq=>dN (eO ho q hq).1)) ((eM.sets _ 6 w).toChg rfl) hk).2⟩
def r7 (s:Rf) (i t:Int) (es:List Ent) (k:Nat):Rf:={ s with b:=if 1≤k then i else s.b,t:=if 1≤k then t else s.t,es:=if 1≤k then es else s.es,snap:=if 2≤k then s.part else s.snap,commit:=if 3≤k then i else s.commit }
theorem As (s:Rf) (i:Int) (E:Option Addr) (c:Nat) (w:World) (h:cC w (.slice E s.es.length c) s.es) (hm:cj s.b s.t s.es=true) (hi:s.b≤i) (hl:dh s.b s.es=bm s):Rt prog 121 [.agg #[.int .i64 s.b,.int .i64 s.t,.slice E s.es.length c],.int .i64 i] w fun v w'=>(∃ t e,v=.tuple #[.int .i64 t,.int .i64 e]∧((e=0∧t=de s.b s.t s.es i∧i≤bm s)∨(e=3∧¬ i≤bm s)))∧ag w w':=
 (Rt.of (ru s.b s.t i _ s.es w h)).mono fun v w' h9=>⟨by
  have h1:=h9.1;unfold uv at h1;rw [if_pos hm] at h1;by_cases hc:s.b≤i∧i≤dh s.b s.es
  ·rw [if_pos hc] at h1;exact ⟨_,_,h1,.inl ⟨rfl,rfl,by omega⟩⟩
  ·rw [if_neg hc] at h1;exact ⟨_,_,h1,.inr ⟨rfl,by omega⟩⟩,h9.2⟩
theorem pE (T g:Nat) (s:Rf) (a:Ra) (R:List Value) (w:World) (hb:Blk w g T (rfV s a++R).toArray) (he:cC w (.slice a.E s.es.length a.Ec) s.es) (hm:cj s.b s.t s.es=true) (i:Int) (hi:s.b≤i∧i≤bm s) {t:Int} (ht:t=de s.b s.t s.es i):Rt prog 83 [.pointer (some ⟨g,0,none⟩),.int .i64 i] w fun v w'=>v=.int .i64 t∧ag w w':=by
 subst ht;exact od T g s a R w hb he hm i hi
theorem xV (s:Rf) (i:Int) (hm:cj s.b s.t s.es=true) (hl:dh s.b s.es=bm s) (hi:s.b<i∧i≤bm s∧i≤1099511625728) (E:Option Addr) (c:Nat) (w:World) (h:cC w (.slice E s.es.length c) s.es) :
 Rt prog 81 [.agg #[.int .i64 s.b,.int .i64 s.t,.slice E s.es.length c],.int .i64 i] w fun v w'=>(∃ A' c',v=.tuple #[.agg #[.int .i64 i,.int .i64 (de s.b s.t s.es i),.slice A' (s.es.drop (i-s.b).toNat).length c'],.int .i64 0]∧w'.ownsRow w.heap.size 99 3 (.slice A' (s.es.drop (i-s.b).toNat).length c') (s.es.drop (i-s.b).toNat).length (dT (s.es.drop (i-s.b).toNat)))∧ag w w':=
 (tM s.b s.t i _ s.es w h).mono fun v w' ⟨L,hv,hg,hF'⟩=>by
  have h0:lB s.b s.t s.es i=0:=by
   unfold lB;rw [if_pos hm,if_pos];omega
  rw [h0] at hv hg;obtain ⟨A',c',rfl,ho⟩:=hg.2 rfl;exact ⟨⟨A',c',hv,ho⟩,hF'⟩
theorem tz (w0:World) (Z:Nat→Prop) (T g:Nat) (s:Rf) (i t:Int) (w:World) (h:aR w0 Z w T g ⟨s,[]⟩) (hm:cj s.b s.t s.es=true) (hl:dh s.b s.es=bm s) (hi:s.b<i∧i≤1099511625728) :
 Rt prog 166 [.pointer (some ⟨g,0,none⟩),.int .i64 i,.int .i64 t] w (fun v w'=>v=.tuple #[]∧aR w0 Z w' T g ⟨jQ s i t,[]⟩):=by
 obtain ⟨tgV,aV,OV,ocV,LV,hsV⟩:=h.ex;have heV:=(bo.rd hsV.f).e;refine enter (n:=74) Tryz.func166 rfl rfl rfl (ao (ah (mvi rfl (mvi rfl (ab (cl (l:=[(0,.tmp 9),(1,.tmp 10)]) (pf _ _)) (bS gO ?_))))));intro b6 w1 E6 hb6 hk6;have hg6:w.heap.size≤b6:=by rw [hb6];exact (ag.rfl_).size
 refine cg (vs:=[_,_,_]) bh rfl rfl (by simp [Value.oneCell']) (hk6) rfl ?_;intro w2 O0 P0;have hk6q:Blk w2 b6 24 #[.int .i64 i,.int .i64 t,.slice none 0 0]:=P0;refine an (ai (e_ (G:=List Ent×Option Addr×Nat) [7,8,12,13,14,15,16,17,18,19,20,21,22,23,24,25,26,27,28,29,30,31,32,33,34,35,36,37,38,39,40] (fun _=>[]) (fun (es8,A8,c8) w'=>es8=(if iq s i t then s.es.drop (i-s.b).toNat else [])∧Blk w' b6 24 #[.int .i64 i,.int .i64 t,.slice A8 es8.length c8]∧w'.ownsRow w.heap.size 99 3 (.slice A8 es8.length c8) es8.length (dT es8)∧ag w w') ?_ ?_))
 ·refine ao (ah (mvp rfl (ab (av rfl) (ab (aa aD rfl) (ab (aa aB rfl) (ab (aa bn rfl) (ab (aH (cs:=[.int .i64 s.b,.int .i64 s.t,.slice aV.E s.es.length aV.Ec]) bQ bh rfl (gW (hsV.b.from_ ((ag.rfl_.next E6).only O0 (hg6))))) (mvi rfl (aC mq (As s i aV.E aV.Ec _ (heV.from_ ((ag.rfl_.next E6).only O0 (hg6))) hm (by omega) hl) ?_)))))))));rintro v20 w3 ⟨⟨t9,e9,rfl,hte⟩,E20⟩;refine mvt rfl (ab (a_ rfl rfl) (ab (a_ rfl rfl) (asi rfl (asi rfl (an (ai (ao (ah (mvi rfl (ab (bf rfl rfl) (mvb rfl ?_)))))))))));refine Ao (t:=25) rfl (fun Q4=>?_) (fun Q4=>?_)
  ·refine ae rfl (mvi rfl (ae rfl (mvi rfl (ae rfl (ab (bf rfl rfl) (ab (aM (v:=.bool _) rfl rfl) (an (ai (AS rfl (fun Q5=>?_) (fun Q5=>?_))))))))))
   ·refine ah (mvp rfl (ab (av rfl) (ab (aa aD rfl) (ab (aa aB rfl) (ab (aa bn rfl) (ab (aH (cs:=[.int .i64 s.b,.int .i64 s.t,.slice aV.E s.es.length aV.Ec]) bQ bh rfl (gW (hsV.b.from_ (((ag.rfl_.next E6).only O0 (hg6)).next E20)))) (mvi rfl ?_)))))));have hz38:=((((ag.rfl_.next E6).only O0 (hg6)).next E20)).size;have hM38:ag _ w3:=(ag.rfl_.next E20);replace hk6q:=hk6q.from_ hM38;refine aC uj (xV s i hm hl (by omega) aV.E aV.Ec _ (heV.from_ (((ag.rfl_.next E6).only O0 (hg6)).next E20))) ?_;rintro v38 w6 ⟨⟨A38,c38,rfl,ho38⟩,E38⟩;replace hk6q:=hk6q.from_ E38;refine mvt rfl (ab (a_ rfl rfl) (ab (a_ rfl rfl) ?_));have hM3:ag _ w6:=ag.rfl_;refine cg (vs:=[_,_,_]) bh rfl rfl (by simp [Value.oneCell']) ((hk6q.from_ ag.rfl_)) rfl ?_;intro w7 O3 P3;have hk6c:Blk w7 b6 24 #[.int .i64 i,.int .i64 (de s.b s.t s.es i),.slice A38 (s.es.drop (i-s.b).toNat).length c38]:=P3;have ho6c:=gk (ho38.kept_from hM3) O3 (j7 (ho38.kept_from hM3) (hk6q.from_ hM3) (by decide));refine an ?_;refine bL ((s.es.drop (i-s.b).toNat,A38,c38)) trivial (by (iterate 32 refine bd rfl ?_);exact br) ?_
    first
     |exact ⟨by rw [nU (by omega) (by omega)];rfl,by rw [show t=de s.b s.t s.es i by omega];exact hk6c,dW ho6c hz38,(((((ag.rfl_.next E6).only O0 (hg6)).next E20).next E38).only O3 (hg6))⟩
     |exact ⟨by rw [mh (by omega)];rfl,hk6q.from_ ag.rfl_,World.ownsRow_nil _ _ _ _,(((((ag.rfl_.next E6).only O0 (hg6)).next E20).next E38).only O3 (hg6))⟩
   refine aO ?_;refine bL (([],none,0)) trivial (by (iterate 21 refine bd rfl ?_);exact br) ?_
   first
    |exact ⟨by rw [nU (by omega) (by omega)];rfl,by rw [show t=de s.b s.t s.es i by omega];exact hk6c,dW ho6c hz38,(((ag.rfl_.next E6).only O0 (hg6)).next E20)⟩
    |exact ⟨by rw [mh (by omega)];rfl,hk6q.from_ (ag.rfl_.next E20),World.ownsRow_nil _ _ _ _,(((ag.rfl_.next E6).only O0 (hg6)).next E20)⟩
  refine aq rfl rfl (aq rfl rfl (aq rfl rfl (ab (ay (v:=.bool _) rfl rfl) (an (ai (bg rfl (aO ?_)))))));refine bL (([],none,0)) trivial (by (iterate 21 refine bd rfl ?_);exact br) ?_
  first
   |exact ⟨by rw [nU (by omega) (by omega)];rfl,by rw [show t=de s.b s.t s.es i by omega];exact hk6c,dW ho6c hz38,(((ag.rfl_.next E6).only O0 (hg6)).next E20)⟩
   |exact ⟨by rw [mh (by omega)];rfl,hk6q.from_ (ag.rfl_.next E20),World.ownsRow_nil _ _ _ _,(((ag.rfl_.next E6).only O0 (hg6)).next E20)⟩
 rintro ⟨es8,A8,c8⟩ ρ8 w8 ⟨hes8,hk8,ho8,hB⟩;have hgb:=hsV.b.lt;have hn6:b6≠g:=by omega
 refine ao ?_;have hU9:ke [(0,41,.pointer (some ⟨g,0,none⟩)),(1,42,.pointer (some ⟨g,0,none⟩)),(2,43,.pointer (some ⟨g,0,none⟩)),(3,44,.agg #[.int .i64 i,.int .i64 t,.slice A8 es8.length c8]),(4,45,.pointer (some ⟨g,0,none⟩)),(5,46,.pointer (some ⟨g,0,none⟩)),(6,47,.pointer (some ⟨g,0+0,none⟩)),(7,48,.pointer (some ⟨g,0+0+0,none⟩)),(8,49,.pointer (some ⟨g,0+0+0+20,none⟩)),(9,50,.string s.part),(10,51,.int .i64 i),(11,52,.pointer (some ⟨g,0,none⟩)),(12,53,.pointer (some ⟨g,0+0,none⟩)),(13,54,.pointer (some ⟨g,0+0+0,none⟩)),(14,55,.pointer (some ⟨g,0+0+0+6,none⟩)),(16,56,.pointer (some ⟨g,0,none⟩)),(17,57,.pointer (some ⟨g,0+0,none⟩)),(18,58,.pointer (some ⟨g,0+0+0,none⟩)),(19,59,.pointer (some ⟨g,0+0+0+9,none⟩)),(21,60,.pointer (some ⟨g,0,none⟩)),(22,61,.pointer (some ⟨g,0+0,none⟩)),(23,62,.pointer (some ⟨g,0+0+0,none⟩)),(24,63,.pointer (some ⟨g,0+0+0+10,none⟩))]:=by simp [ke]
 refine lj [(0,41,.pointer (some ⟨g,0,none⟩)),(1,42,.pointer (some ⟨g,0,none⟩)),(2,43,.pointer (some ⟨g,0,none⟩)),(3,44,.agg #[.int .i64 i,.int .i64 t,.slice A8 es8.length c8]),(4,45,.pointer (some ⟨g,0,none⟩)),(5,46,.pointer (some ⟨g,0,none⟩)),(6,47,.pointer (some ⟨g,0+0,none⟩)),(7,48,.pointer (some ⟨g,0+0+0,none⟩)),(8,49,.pointer (some ⟨g,0+0+0+20,none⟩)),(9,50,.string s.part),(10,51,.int .i64 i),(11,52,.pointer (some ⟨g,0,none⟩)),(12,53,.pointer (some ⟨g,0+0,none⟩)),(13,54,.pointer (some ⟨g,0+0+0,none⟩)),(14,55,.pointer (some ⟨g,0+0+0+6,none⟩)),(16,56,.pointer (some ⟨g,0,none⟩)),(17,57,.pointer (some ⟨g,0+0,none⟩)),(18,58,.pointer (some ⟨g,0+0+0,none⟩)),(19,59,.pointer (some ⟨g,0+0+0+9,none⟩)),(21,60,.pointer (some ⟨g,0,none⟩)),(22,61,.pointer (some ⟨g,0+0,none⟩)),(23,62,.pointer (some ⟨g,0+0+0,none⟩)),(24,63,.pointer (some ⟨g,0+0+0+10,none⟩))] (fun S w'=>(∃ k9:Nat,aR w0 Z w' T g ⟨r7 s i t es8 k9,[]⟩∧(S 15=true↔1≤k9)∧(S 20=true↔2≤k9)∧(S 25=true↔3≤k9)∧(k9=0→ag w8 w'))∧Blk w' b6 24 #[.int .i64 i,.int .i64 t,.slice A8 es8.length c8]) (by kernel_rfl) (by kernel_rfl) hU9 (by simp) (⟨⟨0,(h.from_ hB).from_ ag.rfl_.d1,by simp,by simp,by simp,fun _=>ag.rfl_.d1⟩,hk8.from_ ag.rfl_.d1⟩) ?_ ?_
 ·constructor
  ·rintro S L' wS hI hM hS0 ⟨-⟩;have e0:=hI.1 0 (by simp);have hM':=hM;obtain ⟨⟨k9,hS9,hq1,hq2,hq3,hF9⟩,hk9⟩:=hM';exact bq (aF e0) ⟨hI.put hU9 (.head _),hM⟩
  constructor
  ·rintro S L' wS hI hM hS0 ⟨-,-⟩;have e0:=hI.1 0 (by simp);have hM':=hM;obtain ⟨⟨k9,hS9,hq1,hq2,hq3,hF9⟩,hk9⟩:=hM';exact bq (aF e0) ⟨hI.put hU9 (.tail _ (.head _)),hM⟩
  constructor
  ·rintro S L' wS hI hM hS0 ⟨-,-⟩;have e0:=hI.1 0 (by simp);have hM':=hM;obtain ⟨⟨k9,hS9,hq1,hq2,hq3,hF9⟩,hk9⟩:=hM';exact bq (aF e0) ⟨hI.put hU9 (gM 2 rfl),hM⟩
  constructor
  ·rintro S L' wS hI hM hS0 ⟨-⟩;have e6:=hI.1 6 (by simp);have hM':=hM;obtain ⟨⟨k9,hS9,hq1,hq2,hq3,hF9⟩,hk9⟩:=hM';exact bq (aH (cs:=[.int .i64 i,.int .i64 t,.slice A8 es8.length c8]) bQ bh e6 hk9.whole) ⟨hI.put hU9 (gM 3 rfl),hM⟩
  constructor
  ·rintro S L' wS hI hM hS0 ⟨-⟩;have e0:=hI.1 0 (by simp);have hM':=hM;obtain ⟨⟨k9,hS9,hq1,hq2,hq3,hF9⟩,hk9⟩:=hM';exact bq (aF e0) ⟨hI.put hU9 (gM 4 rfl),hM⟩
  constructor
  ·rintro S L' wS hI hM hS0 ⟨d4,-⟩;have e45:bu L' 45=.pointer (some ⟨g,0,none⟩):=hI.get (i:=4) (gM 4 rfl) d4;have hM':=hM;obtain ⟨⟨k9,hS9,hq1,hq2,hq3,hF9⟩,hk9⟩:=hM';exact bq (av e45) ⟨hI.put hU9 (gM 5 rfl),hM⟩
  constructor
  ·rintro S L' wS hI hM hS0 ⟨d5,-⟩;have e46:bu L' 46=.pointer (some ⟨g,0,none⟩):=hI.get (i:=5) (gM 5 rfl) d5;have hM':=hM;obtain ⟨⟨k9,hS9,hq1,hq2,hq3,hF9⟩,hk9⟩:=hM';exact bq (aa aD e46) ⟨hI.put hU9 (gM 6 rfl),hM⟩
  constructor
  ·rintro S L' wS hI hM hS0 ⟨d6,-⟩;have e47:bu L' 47=.pointer (some ⟨g,0+0,none⟩):=hI.get (i:=6) (gM 6 rfl) d6;have hM':=hM;obtain ⟨⟨k9,hS9,hq1,hq2,hq3,hF9⟩,hk9⟩:=hM';exact bq (aa aB e47) ⟨hI.put hU9 (gM 7 rfl),hM⟩
  constructor
  ·rintro S L' wS hI hM hS0 ⟨d7,-⟩;have e48:bu L' 48=.pointer (some ⟨g,0+0+0,none⟩):=hI.get (i:=7) (gM 7 rfl) d7;have hM':=hM;obtain ⟨⟨k9,hS9,hq1,hq2,hq3,hF9⟩,hk9⟩:=hM';exact bq (aa bw e48) ⟨hI.put hU9 (gM 8 rfl),hM⟩
  constructor
  ·rintro S L' wS hI hM hS0 ⟨d8,-⟩;have e49:bu L' 49=.pointer (some ⟨g,0+0+0+20,none⟩):=hI.get (i:=8) (gM 8 rfl) d8;have hM':=hM;obtain ⟨⟨k9,hS9,hq1,hq2,hq3,hF9⟩,hk9⟩:=hM';exact bq (ar bF e49 (by exact (show _=some (Value.string s.part) from hS9.rd (fun _=>rfl)))) ⟨hI.put hU9 (gM 9 rfl),hM⟩
  constructor
  ·rintro S L' wS hI hM hS0 ⟨-,-⟩;have e1:=hI.1 1 (by simp);have hM':=hM;obtain ⟨⟨k9,hS9,hq1,hq2,hq3,hF9⟩,hk9⟩:=hM';exact bq (aF e1) ⟨hI.put hU9 (gM 10 rfl),hM⟩
  constructor
  ·rintro S L' wS hI hM hS0 ⟨d0,d0,-,-,d3,-,-,-,-,-,d9,-,-⟩;have e41:bu L' 41=.pointer (some ⟨g,0,none⟩):=hI.get (i:=0) (.head _) d0;have hM':=hM;obtain ⟨⟨k9,hS9,hq1,hq2,hq3,hF9⟩,hk9⟩:=hM';exact bq (av e41) ⟨hI.put hU9 (gM 11 rfl),hM⟩
  constructor
  ·rintro S L' wS hI hM hS0 ⟨d11,d0,-,-,d3,-,-,-,-,-,d9,-,-⟩;have e52:bu L' 52=.pointer (some ⟨g,0,none⟩):=hI.get (i:=11) (gM 11 rfl) d11;have hM':=hM;obtain ⟨⟨k9,hS9,hq1,hq2,hq3,hF9⟩,hk9⟩:=hM';exact bq (aa aD e52) ⟨hI.put hU9 (gM 12 rfl),hM⟩
  constructor
  ·rintro S L' wS hI hM hS0 ⟨d12,d0,-,-,d3,-,-,-,-,-,d9,-,-⟩;have e53:bu L' 53=.pointer (some ⟨g,0+0,none⟩):=hI.get (i:=12) (gM 12 rfl) d12;have hM':=hM;obtain ⟨⟨k9,hS9,hq1,hq2,hq3,hF9⟩,hk9⟩:=hM';exact bq (aa aB e53) ⟨hI.put hU9 (gM 13 rfl),hM⟩
  constructor
  ·rintro S L' wS hI hM hS0 ⟨d13,d0,-,-,d3,-,-,-,-,-,d9,-,-⟩;have e54:bu L' 54=.pointer (some ⟨g,0+0+0,none⟩):=hI.get (i:=13) (gM 13 rfl) d13;have hM':=hM;obtain ⟨⟨k9,hS9,hq1,hq2,hq3,hF9⟩,hk9⟩:=hM';exact bq (aa bn e54) ⟨hI.put hU9 (gM 14 rfl),hM⟩
  constructor
  ·rintro S L' wS hI hM hS0 ⟨d14,d3,d0,-,-,d3,-,-,-,-,-,d9,-,-⟩;have e44:bu L' 44=.agg #[.int .i64 i,.int .i64 t,.slice A8 es8.length c8]:=hI.get (i:=3) (gM 3 rfl) d3;have e55:bu L' 55=.pointer (some ⟨g,0+0+0+6,none⟩):=hI.get (i:=14) (gM 14 rfl) d14;have hM':=hM;obtain ⟨⟨k9,hS9,hq1,hq2,hq3,hF9⟩,hk9⟩:=hM'
   have e0:k9=0:=by
    rcases Nat.eq_zero_or_pos k9 with e | e
    ·exact e
    ·exact absurd (hq1.2 e) (by rw [hS0];decide)
   subst e0;obtain ⟨w2,hR,hO,hS2⟩:=tb (n:=74) (L:=L') (x:=.tmp 55) (y:=.tmp 44) (b:=i) (t9:=t) (es:=es8) bh e55 e44 h (hB.next (hF9 rfl)) (ho8.kept_from (hF9 rfl));exact fI hR ⟨hI.skip (by simp),⟨1,hS2,⟨fun _=>Nat.le_refl _,fun _=>dS _ _⟩,by rw [eZ (by decide),hq2];omega,by rw [eZ (by decide),hq3];omega,fun h0=>by omega⟩,hk9.only hO hn6⟩
  constructor
  ·rintro S L' wS hI hM hS0 ⟨d1,d0,d1,-,d3,d4,d5,d6,d7,d8,d9,-,d11,d12,d13,d14,d15,-⟩;have e42:bu L' 42=.pointer (some ⟨g,0,none⟩):=hI.get (i:=1) (.tail _ (.head _)) d1;have hM':=hM;obtain ⟨⟨k9,hS9,hq1,hq2,hq3,hF9⟩,hk9⟩:=hM';exact bq (av e42) ⟨hI.put hU9 (gM 15 rfl),hM⟩
  constructor
  ·rintro S L' wS hI hM hS0 ⟨d16,d0,d1,-,d3,d4,d5,d6,d7,d8,d9,-,d11,d12,d13,d14,d15,-⟩;have e56:bu L' 56=.pointer (some ⟨g,0,none⟩):=hI.get (i:=16) (gM 15 rfl) d16;have hM':=hM;obtain ⟨⟨k9,hS9,hq1,hq2,hq3,hF9⟩,hk9⟩:=hM';exact bq (aa aD e56) ⟨hI.put hU9 (gM 16 rfl),hM⟩
  constructor
  ·rintro S L' wS hI hM hS0 ⟨d17,d0,d1,-,d3,d4,d5,d6,d7,d8,d9,-,d11,d12,d13,d14,d15,-⟩;have e57:bu L' 57=.pointer (some ⟨g,0+0,none⟩):=hI.get (i:=17) (gM 16 rfl) d17;have hM':=hM;obtain ⟨⟨k9,hS9,hq1,hq2,hq3,hF9⟩,hk9⟩:=hM';exact bq (aa aB e57) ⟨hI.put hU9 (gM 17 rfl),hM⟩
  constructor
  ·rintro S L' wS hI hM hS0 ⟨d18,d0,d1,-,d3,d4,d5,d6,d7,d8,d9,-,d11,d12,d13,d14,d15,-⟩;have e58:bu L' 58=.pointer (some ⟨g,0+0+0,none⟩):=hI.get (i:=18) (gM 17 rfl) d18;have hM':=hM;obtain ⟨⟨k9,hS9,hq1,hq2,hq3,hF9⟩,hk9⟩:=hM';exact bq (aa dB e58) ⟨hI.put hU9 (gM 18 rfl),hM⟩
  constructor
  ·rintro S L' wS hI hM hS0 ⟨d19,d9,d15,d0,d1,-,d3,d4,d5,d6,d7,d8,d9,-,d11,d12,d13,d14,d15,-⟩;have e50:bu L' 50=.string s.part:=hI.get (i:=9) (gM 9 rfl) d9;have e59:bu L' 59=.pointer (some ⟨g,0+0+0+9,none⟩):=hI.get (i:=19) (gM 18 rfl) d19;have hM':=hM;obtain ⟨⟨k9,hS9,hq1,hq2,hq3,hF9⟩,hk9⟩:=hM'
   have e0:k9=1:=by
    have e1:=hq1.1 d15;rcases Nat.lt_or_ge k9 2 with e | e
    ·omega
    ·exact absurd (hq2.2 e) (by rw [hS0];decide)
   subst e0;obtain ⟨w2,hR,hO,hS2⟩:=rF (n:=74) (L:=L') (x:=.tmp 59) (y:=.tmp 50) (s':=r7 s i t es8 2) ep e59 e50 rfl hS9 (fun _=>⟨by decide,rfl⟩) ⟨rfl,rfl,rfl,rfl,rfl,rfl⟩;exact fI hR ⟨hI.skip (by simp),⟨2,hS2,by rw [eZ (by decide),hq1];omega,⟨fun _=>Nat.le_refl _,fun _=>dS _ _⟩,by rw [eZ (by decide),hq3];omega,fun h0=>by omega⟩,hk9.only hO hn6⟩
  constructor
  ·rintro S L' wS hI hM hS0 ⟨d2,d0,d1,d2,d3,d4,d5,d6,d7,d8,d9,d10,d11,d12,d13,d14,d15,d16,d17,d18,d19,d20,-⟩;have e43:bu L' 43=.pointer (some ⟨g,0,none⟩):=hI.get (i:=2) (gM 2 rfl) d2;have hM':=hM;obtain ⟨⟨k9,hS9,hq1,hq2,hq3,hF9⟩,hk9⟩:=hM';exact bq (av e43) ⟨hI.put hU9 (gM 19 rfl),hM⟩
  constructor
  ·rintro S L' wS hI hM hS0 ⟨d21,d0,d1,d2,d3,d4,d5,d6,d7,d8,d9,d10,d11,d12,d13,d14,d15,d16,d17,d18,d19,d20,-⟩;have e60:bu L' 60=.pointer (some ⟨g,0,none⟩):=hI.get (i:=21) (gM 19 rfl) d21;have hM':=hM;obtain ⟨⟨k9,hS9,hq1,hq2,hq3,hF9⟩,hk9⟩:=hM';exact bq (aa aD e60) ⟨hI.put hU9 (gM 20 rfl),hM⟩
  constructor
  ·rintro S L' wS hI hM hS0 ⟨d22,d0,d1,d2,d3,d4,d5,d6,d7,d8,d9,d10,d11,d12,d13,d14,d15,d16,d17,d18,d19,d20,-⟩;have e61:bu L' 61=.pointer (some ⟨g,0+0,none⟩):=hI.get (i:=22) (gM 20 rfl) d22;have hM':=hM;obtain ⟨⟨k9,hS9,hq1,hq2,hq3,hF9⟩,hk9⟩:=hM';exact bq (aa aB e61) ⟨hI.put hU9 (gM 21 rfl),hM⟩
  constructor
  ·rintro S L' wS hI hM hS0 ⟨d23,d0,d1,d2,d3,d4,d5,d6,d7,d8,d9,d10,d11,d12,d13,d14,d15,d16,d17,d18,d19,d20,-⟩;have e62:bu L' 62=.pointer (some ⟨g,0+0+0,none⟩):=hI.get (i:=23) (gM 21 rfl) d23;have hM':=hM;obtain ⟨⟨k9,hS9,hq1,hq2,hq3,hF9⟩,hk9⟩:=hM';exact bq (aa bW e62) ⟨hI.put hU9 (gM 22 rfl),hM⟩
  constructor
  ·rintro S L' wS hI hM hS0 ⟨d24,d10,d20,d0,d1,d2,d3,d4,d5,d6,d7,d8,d9,d10,d11,d12,d13,d14,d15,d16,d17,d18,d19,d20,-⟩;have e51:bu L' 51=.int .i64 i:=hI.get (i:=10) (gM 10 rfl) d10;have e63:bu L' 63=.pointer (some ⟨g,0+0+0+10,none⟩):=hI.get (i:=24) (gM 22 rfl) d24;have hM':=hM;obtain ⟨⟨k9,hS9,hq1,hq2,hq3,hF9⟩,hk9⟩:=hM'
   have e0:k9=2:=by
    have e1:=hq2.1 d20;rcases Nat.lt_or_ge k9 3 with e | e
    ·omega
    ·exact absurd (hq3.2 e) (by rw [hS0];decide)
   subst e0;obtain ⟨w2,hR,hO,hS2⟩:=rF (n:=74) (L:=L') (x:=.tmp 63) (y:=.tmp 51) (s':=r7 s i t es8 3) bc e63 e51 rfl hS9 (fun _=>⟨by decide,rfl⟩) ⟨rfl,rfl,rfl,rfl,rfl,rfl⟩;exact fI hR ⟨hI.skip (by simp),⟨3,hS2,by rw [eZ (by decide),hq1];omega,by rw [eZ (by decide),hq2];omega,⟨fun _=>Nat.le_refl _,fun _=>dS _ _⟩,fun h0=>by omega⟩,hk9.only hO hn6⟩
  exact trivial
 ·intro w10 hM;obtain ⟨⟨k9,hS9,hq1,hq2,hq3,hF9⟩,hk9⟩:=hM;have e3:3≤k9:=hq3.1 (by decide)
  have h13:aR w0 Z w10 T g ⟨({ s with b:=i,t:=t,es:=es8,snap:=s.part,commit:=i }:Rf),[]⟩:=by
   have e9:r7 s i t es8 k9=({ s with b:=i,t:=t,es:=es8,snap:=s.part,commit:=i }:Rf):=by
    unfold r7;rw [if_pos (by omega),if_pos (by omega),if_pos (by omega),if_pos (by omega),if_pos (by omega)]
   rw [←e9];exact hS9
  refine ai (ah (mvp rfl (mvp rfl (ab (av rfl) (ab (aa aD rfl) (ab (aa aB rfl) (ab (aa bw rfl) (dU (s':=({ s with b:=i,t:=t,es:=es8,snap:=s.part,commit:=i,part:=⟨#[]⟩ }:Rf)) ep rfl rfl rfl (h13.from_ ag.rfl_) (fun _=>⟨by decide,rfl⟩) ⟨rfl,rfl,rfl,rfl,rfl,rfl⟩ ?_))))))));intro w11 h14;refine ab (av rfl) (ab (aa aD rfl) (ab (aa aB rfl) (ab (aa cA rfl) (dU (s':=({ s with b:=i,t:=t,es:=es8,snap:=s.part,commit:=i,part:=⟨#[]⟩,partOf:=0 }:Rf)) bc rfl rfl rfl (h14.from_ ag.rfl_) (fun _=>⟨by decide,rfl⟩) ⟨rfl,rfl,rfl,rfl,rfl,rfl⟩ ?_))));intro w12 h15;refine an (da (eg rfl ?_));have e9:jQ s i t=({ s with b:=i,t:=t,es:=es8,snap:=s.part,commit:=i,part:=⟨#[]⟩,partOf:=0 }:Rf):=by unfold jQ;rw [←hes8]
  rw [e9];exact ⟨rfl,h15.from_ ag.rfl_⟩
theorem sh (w0:World) (Z:Nat→Prop) (T g:Nat) (s:Rf) (m:Msg) (w:World) (h:aR w0 Z w T g ⟨s,[]⟩) (hm:cj s.b s.t s.es=true) (_:dh s.b s.es=bm s) (hi:s.b<m.ix∧m.ix≤1099511625728) (hpa:s.part.size≤524288) (hdz:m.d.size≤1024) :
 Rt prog 148 [.pointer (some ⟨g,0,none⟩),.agg (bC m).toArray] w (fun v w'=>v=.tuple #[]∧aR w0 Z w' T g (qa s m)):=by
 refine enter (n:=102) Tryz.func148 rfl rfl rfl (ao (ah (bZ (v:=.agg _) rfl ?_)));intro b3 w1 E3 hb3 hk3;obtain ⟨wm,hwm⟩:∃ x,x=w1:=⟨_,rfl⟩
 have h3a:=h.at_ (Z':=fun k=>Z k∨k=b3) E3 (fun k hk=>by
  rcases hk with e | e
  ·exact ⟨Nat.lt_of_lt_of_le (h.zw k e) E3.size,.inl e⟩
  ·subst e;exact ⟨hk3.lt,.inr (by omega)⟩)
 obtain ⟨Z7,hZ7⟩:∃ Z7,Z7=fun k=>Z k∨k=b3:=⟨_,rfl⟩
 have h3:aR wm Z7 w1 T g ⟨s,[]⟩:=by
  rw [hZ7,hwm];exact h3a
 have hzi:∀ k,Z k→Z7 k:=fun k hk=>by rw [hZ7];exact .inl hk
 have hzb:Z7 b3:=by rw [hZ7];exact .inr rfl
 have hE3:ag w wm:=by rw [hwm];exact E3
 have hm9:Blk wm b3 39 (bC m).toArray:=by rw [hwm];exact hk3
 have hm3:=h3.kept hzb hm9;refine an (ai (e_ (G:=Rf) [5,6,7,8,9,10,11,12,13,14,15,16,17,18,19,20,21,22,23,24,25] (fun _=>[]) (fun p8 w'=>p8=pR s m∧p8.part.size≤524288∧aR wm Z7 w' T g ⟨p8,[]⟩) ?_ ?_))
 ·refine ao ?_;apply bK 9 [(5,eqp _),(6,eqp _),(7,eqp _),(8,eqp _),(9,eqp _),(10,eqp (.int .i64 s.partOf)),(11,eqp _),(12,eqp (.int .i64 m.ix)),(13,eqp _)] (by repeat first | exact ct | refine cr ?_ | refine bX ?_) (by kernel_rfl) (by kernel_rfl) ⟨aj _,aj _,aj _,aj _,aj _,aj _,aj _,aj _,aj _,trivial⟩
  case hop=>
   constructor
   ·rintro-w3 D3;exact au (aF (v:=.pointer _) rfl) rfl
   constructor
   ·rintro-w4 D4;rintro _ rfl;exact au (av rfl) rfl
   constructor
   ·rintro-w5 D5;rintro _ rfl;exact au (aa aD rfl) rfl
   constructor
   ·rintro-w6 D6;rintro _ rfl;exact au (aa aB rfl) rfl
   constructor
   ·rintro-w7 D7;rintro _ rfl;exact au (aa cA rfl) rfl
   constructor
   ·rintro-w8 D8;rintro _ rfl;exact au (ar ak rfl (by exact (show _=some (Value.int .i64 s.partOf) from (h3.from_ (ag.rfl_.next D8)).rd (fun _=>rfl)))) rfl
   constructor
   ·rintro-w9 D9;exact au (aa bJ rfl) rfl
   constructor
   ·rintro-w10 D10;rintro _ rfl;exact au (ar ak rfl (by exact (show _=some (Value.int .i64 m.ix) from (hm3.from_ (ag.rfl_.next D10)).rd 4 rfl))) rfl
   constructor
   ·rintro-w11 D11;rintro v11_10 rfl v11_12 rfl;exact au (dm rfl rfl) rfl
   exact trivial
  case hend=>
   intro w12 D12;rintro _ rfl _ rfl _ rfl _ rfl _ rfl v10 rfl _ rfl v12 rfl _ rfl;show St ..;refine an (ai (aS rfl (fun Q13=>?_) (fun Q13=>?_)))
   ·replace Q13:=dK Q13;replace Q13:=ec Q13;have hpm:s.partOf≠m.ix:=by simpa using Q13
    refine ah (mvp rfl (mvp rfl (ab (aa bJ rfl) (ab (ar ak rfl (by exact (show _=some (Value.int .i64 m.ix) from (hm3.from_ (ag.rfl_.next D12)).rd 4 rfl))) ?_))));refine ab (av rfl) (ab (aa aD rfl) (ab (aa aB rfl) (ab (aa cA rfl) (dU (s':=({ s with partOf:=m.ix }:Rf)) bc rfl rfl rfl (h3.from_ (ag.rfl_.next D12)) (fun _=>⟨by decide,rfl⟩) ⟨rfl,rfl,rfl,rfl,rfl,rfl⟩ ?_))));intro w14 h4;refine ab (av rfl) (ab (aa aD rfl) (ab (aa aB rfl) (ab (aa bw rfl) (dU (s':=({ s with partOf:=m.ix,part:=⟨#[]⟩ }:Rf)) ep rfl rfl rfl (h4.from_ ag.rfl_) (fun _=>⟨by decide,rfl⟩) ⟨rfl,rfl,rfl,rfl,rfl,rfl⟩ ?_))));intro w15 h5;refine an ?_;refine bL ({ s with partOf:=m.ix,part:=⟨#[]⟩ }) trivial (by (iterate 21 refine bd rfl ?_);exact br) ?_
    first
     |exact ⟨(yE hpm).symm,Nat.zero_le _,h5.from_ ag.rfl_⟩
     |exact ⟨(yF hpm).symm,hpa,h3.from_ ag.rfl_⟩
   replace Q13:=dL Q13;replace Q13:=eb Q13;have hpm:s.partOf=m.ix:=by simpa using Q13
   refine aO ?_;refine bL (s) trivial (by (iterate 9 refine bd rfl ?_);exact br) ?_
   first
    |exact ⟨(yE hpm).symm,Nat.zero_le _,h5.from_ (ag.rfl_.next D12)⟩
    |exact ⟨(yF hpm).symm,hpa,h3.from_ (ag.rfl_.next D12)⟩
 rintro p8 ρ16 w16 ⟨hp8,hpz,h6⟩;refine e_ (G:=Bool) [26,27,28,29,30,31,32,33,34,35,36,37,38,39,40,41,42,43,44,45,46,47,48,49] (fun b=>[(4,.bool b)]) (fun b w'=>b=gC p8 m∧aR wm Z7 w' T g ⟨p8,[]⟩) ?_ ?_
 ·rcases oT p8 m with hf1 | ⟨hf1,hf2⟩ | ⟨hf1,hf2⟩
  ·have hfb:gC p8 m=false:=xJ hf1;apply bK 25 [(26,eqp _),(27,eqp (.int .i64 m.a)),(28,eqp _),(29,eqp _),(30,eqp _),(31,eqp _),(32,eqp _),(33,eqp (.string p8.part)),(34,eqp _),(35,eqp _),(36,eqp _),(37,eqp _),(38,eqp _),(39,eqp _),(40,eqp _),(41,eqp _),(42,eqp _),(43,eqp _),(44,eqp _),(45,eqp _),(46,eqp _),(47,eqp _),(48,eqp _),(49,eqp _),(4,eqp _)] (by repeat first | exact ct | refine cr ?_ | refine bX ?_) (by kernel_rfl) (by kernel_rfl) ⟨aj _,aj _,aj _,aj _,aj _,aj _,aj _,aj _,aj _,aj _,aj _,aj _,aj _,aj _,aj _,aj _,aj _,aj _,aj _,aj _,aj _,aj _,aj _,aj _,aj _,trivial⟩
   case hop=>
    constructor
    ·rintro-w18 D18;exact au (aa cF rfl) rfl
    constructor
    ·rintro-w19 D19;rintro _ rfl;exact au (ar ak rfl (by exact (show _=some (Value.int .i64 m.a) from ((h6.kept hzb hm9).from_ (ag.rfl_.next D19)).rd 10 rfl))) rfl
    constructor
    ·rintro-w20 D20;exact au (aF (v:=.pointer _) rfl) rfl
    constructor
    ·rintro-w21 D21;rintro _ rfl;exact au (av rfl) rfl
    constructor
    ·rintro-w22 D22;rintro _ rfl;exact au (aa aD rfl) rfl
    constructor
    ·rintro-w23 D23;rintro _ rfl;exact au (aa aB rfl) rfl
    constructor
    ·rintro-w24 D24;rintro _ rfl;exact au (aa bw rfl) rfl
    constructor
    ·rintro-w25 D25;rintro _ rfl;exact au (ar bF rfl (by exact (show _=some (Value.string p8.part) from (h6.from_ (ag.rfl_.next D25)).rd (fun _=>rfl)))) rfl
    constructor
    ·rintro-w26 D26;rintro v26_33 rfl;exact au (df (by kernel_rfl) rfl) rfl
    constructor
    ·rintro-w27 D27;rintro v27_27 rfl _ rfl;exact au (cu (bf rfl rfl) (beq_eq_false_iff_ne.2 hf1)) rfl
    constructor
    ·rintro-w28 D28;rintro _ rfl;exact au (aF (v:=.bool _) rfl) rfl
    constructor
    ·rintro-w29 D29;rintro _ rfl;exact ck rfl rfl rfl
    constructor
    ·rintro-w30 D30;rintro _ rfl _ rfl;exact ck rfl rfl rfl
    constructor
    ·rintro-w31 D31;rintro _ rfl _ rfl;exact ck rfl rfl rfl
    constructor
    ·rintro-w32 D32;rintro _ rfl _ rfl;exact ck rfl rfl rfl
    constructor
    ·rintro-w33 D33;rintro _ rfl _ rfl;exact ck rfl rfl rfl
    constructor
    ·rintro-w34 D34;rintro _ rfl _ rfl;exact ck rfl rfl rfl
    constructor
    ·rintro-w35 D35;rintro _ rfl _ rfl;exact ck rfl rfl rfl
    constructor
    ·rintro-w36 D36;rintro _ rfl;exact ck rfl rfl rfl
    constructor
    ·rintro-w37 D37;rintro _ rfl _ rfl;exact ck rfl rfl rfl
    constructor
    ·rintro-w38 D38;rintro _ rfl _ rfl;exact ck rfl rfl rfl
    constructor
    ·rintro-w39 D39;rintro _ rfl _ rfl _ rfl;exact ck rfl rfl rfl
    constructor
    ·rintro-w40 D40;rintro _ rfl _ rfl;exact ck rfl rfl rfl
    constructor
    ·rintro-w41 D41;rintro _ rfl _ rfl;exact au (ay (v:=.bool _) rfl rfl) rfl
    constructor
    ·rintro-w42 D42;rintro _ rfl;exact au (cZ (v:=.bool _) rfl) rfl
    exact trivial
   case hend=>
    intro w43 D43;rintro _ rfl v27 rfl _ rfl _ rfl _ rfl _ rfl _ rfl v33 rfl _ rfl _ rfl _ rfl _ rfl _ rfl _ rfl _ rfl _ rfl _ rfl _ rfl _ rfl _ rfl _ rfl _ rfl _ rfl _ rfl _ rfl;show St ..;refine an ?_;refine bL (_) ⟨rfl,trivial⟩ (by (iterate 25 refine bd rfl ?_);exact br) ?_;exact ⟨hfb.symm,h6.from_ (ag.rfl_.next D43)⟩
  ·have hfb:gC p8 m=false:=xI hf2;have hf3:¬ ((p8.part.size:Int)+(m.d.size:Int)≤524288):=by omega
   apply bK 25 [(26,eqp _),(27,eqp (.int .i64 m.a)),(28,eqp _),(29,eqp _),(30,eqp _),(31,eqp _),(32,eqp _),(33,eqp (.string p8.part)),(34,eqp _),(35,eqp _),(36,eqp _),(37,eqp _),(38,eqp _),(39,eqp _),(40,eqp _),(41,eqp _),(42,eqp (.string p8.part)),(43,eqp _),(44,eqp _),(45,eqp (.string m.d)),(46,eqp _),(47,eqp (.int .i64 ((p8.part.size:Int)+(m.d.size:Int)))),(48,eqp _),(49,eqp _),(4,eqp _)] (by repeat first | exact ct | refine cr ?_ | refine bX ?_) (by kernel_rfl) (by kernel_rfl) ⟨aj _,aj _,aj _,aj _,aj _,aj _,aj _,aj _,aj _,aj _,aj _,aj _,aj _,aj _,aj _,aj _,aj _,aj _,aj _,aj _,aj _,aj _,aj _,aj _,aj _,trivial⟩
   case hop=>
    constructor
    ·rintro-w45 D45;exact au (aa cF rfl) rfl
    constructor
    ·rintro-w46 D46;rintro _ rfl;exact au (ar ak rfl (by exact (show _=some (Value.int .i64 m.a) from ((h6.kept hzb hm9).from_ (ag.rfl_.next D46)).rd 10 rfl))) rfl
    constructor
    ·rintro-w47 D47;exact au (aF (v:=.pointer _) rfl) rfl
    constructor
    ·rintro-w48 D48;rintro _ rfl;exact au (av rfl) rfl
    constructor
    ·rintro-w49 D49;rintro _ rfl;exact au (aa aD rfl) rfl
    constructor
    ·rintro-w50 D50;rintro _ rfl;exact au (aa aB rfl) rfl
    constructor
    ·rintro-w51 D51;rintro _ rfl;exact au (aa bw rfl) rfl
    constructor
    ·rintro-w52 D52;rintro _ rfl;exact au (ar bF rfl (by exact (show _=some (Value.string p8.part) from (h6.from_ (ag.rfl_.next D52)).rd (fun _=>rfl)))) rfl
    constructor
    ·rintro-w53 D53;rintro v53_33 rfl;exact au (df (by kernel_rfl) rfl) rfl
    constructor
    ·rintro-w54 D54;rintro v54_27 rfl _ rfl;exact au (c6 (bf rfl rfl) (beq_iff_eq.2 hf1)) rfl
    constructor
    ·rintro-w55 D55;rintro _ rfl;exact au (aF (v:=.bool _) rfl) rfl
    constructor
    ·rintro-w56 D56;rintro _ rfl;exact aL rfl (aF (v:=.pointer _) rfl) rfl
    constructor
    ·rintro-w57 D57;rintro _ rfl _ rfl;exact aL rfl (av rfl) rfl
    constructor
    ·rintro-w58 D58;rintro _ rfl _ rfl;exact aL rfl (aa aD rfl) rfl
    constructor
    ·rintro-w59 D59;rintro _ rfl _ rfl;exact aL rfl (aa aB rfl) rfl
    constructor
    ·rintro-w60 D60;rintro _ rfl _ rfl;exact aL rfl (aa bw rfl) rfl
    constructor
    ·rintro-w61 D61;rintro _ rfl _ rfl;exact aL rfl (ar bF rfl (by exact (show _=some (Value.string p8.part) from (h6.from_ (ag.rfl_.next D61)).rd (fun _=>rfl)))) rfl
    constructor
    ·rintro-w62 D62;rintro _ rfl v62_42 rfl;exact aL rfl (df (by kernel_rfl) rfl) rfl
    constructor
    ·rintro-w63 D63;rintro _ rfl;exact aL rfl (aa dC rfl) rfl
    constructor
    ·rintro-w64 D64;rintro _ rfl _ rfl;exact aL rfl (ar bF rfl (by exact (show _=some (Value.string m.d) from ((h6.kept hzb hm9).from_ (ag.rfl_.next D64)).rd 11 rfl))) rfl
    constructor
    ·rintro-w65 D65;rintro _ rfl v65_45 rfl;exact aL rfl (df (by kernel_rfl) rfl) rfl
    constructor
    ·rintro-w66 D66;rintro _ rfl _ rfl _ rfl;exact aL rfl (cn rfl rfl (by omega)) rfl
    constructor
    ·rintro-w67 D67;rintro _ rfl v67_47 rfl;exact aL rfl (cu (eT rfl rfl) (decide_eq_false hf3)) rfl
    constructor
    ·rintro-w68 D68;rintro _ rfl _ rfl;exact au (aM (v:=.bool _) rfl rfl) rfl
    constructor
    ·rintro-w69 D69;rintro _ rfl;exact au (cZ (v:=.bool _) rfl) rfl
    exact trivial
   case hend=>
    intro w70 D70;rintro _ rfl v27 rfl _ rfl _ rfl _ rfl _ rfl _ rfl v33 rfl _ rfl _ rfl _ rfl _ rfl _ rfl _ rfl _ rfl _ rfl v42 rfl _ rfl _ rfl v45 rfl _ rfl v47 rfl _ rfl _ rfl _ rfl;show St ..;refine an ?_;refine bL (_) ⟨rfl,trivial⟩ (by (iterate 25 refine bd rfl ?_);exact br) ?_;exact ⟨hfb.symm,h6.from_ (ag.rfl_.next D70)⟩
  have hfb:gC p8 m=true:=xH hf1 hf2;have hf3:(p8.part.size:Int)+(m.d.size:Int)≤524288:=by omega
  apply bK 25 [(26,eqp _),(27,eqp (.int .i64 m.a)),(28,eqp _),(29,eqp _),(30,eqp _),(31,eqp _),(32,eqp _),(33,eqp (.string p8.part)),(34,eqp _),(35,eqp _),(36,eqp _),(37,eqp _),(38,eqp _),(39,eqp _),(40,eqp _),(41,eqp _),(42,eqp (.string p8.part)),(43,eqp _),(44,eqp _),(45,eqp (.string m.d)),(46,eqp _),(47,eqp (.int .i64 ((p8.part.size:Int)+(m.d.size:Int)))),(48,eqp _),(49,eqp _),(4,eqp _)] (by repeat first | exact ct | refine cr ?_ | refine bX ?_) (by kernel_rfl) (by kernel_rfl) ⟨aj _,aj _,aj _,aj _,aj _,aj _,aj _,aj _,aj _,aj _,aj _,aj _,aj _,aj _,aj _,aj _,aj _,aj _,aj _,aj _,aj _,aj _,aj _,aj _,aj _,trivial⟩
  case hop=>
   constructor
   ·rintro-w72 D72;exact au (aa cF rfl) rfl
   constructor
   ·rintro-w73 D73;rintro _ rfl;exact au (ar ak rfl (by exact (show _=some (Value.int .i64 m.a) from ((h6.kept hzb hm9).from_ (ag.rfl_.next D73)).rd 10 rfl))) rfl
   constructor
   ·rintro-w74 D74;exact au (aF (v:=.pointer _) rfl) rfl
   constructor
   ·rintro-w75 D75;rintro _ rfl;exact au (av rfl) rfl
   constructor
   ·rintro-w76 D76;rintro _ rfl;exact au (aa aD rfl) rfl
   constructor
   ·rintro-w77 D77;rintro _ rfl;exact au (aa aB rfl) rfl
   constructor
   ·rintro-w78 D78;rintro _ rfl;exact au (aa bw rfl) rfl
   constructor
   ·rintro-w79 D79;rintro _ rfl;exact au (ar bF rfl (by exact (show _=some (Value.string p8.part) from (h6.from_ (ag.rfl_.next D79)).rd (fun _=>rfl)))) rfl
   constructor
   ·rintro-w80 D80;rintro v80_33 rfl;exact au (df (by kernel_rfl) rfl) rfl
   constructor
   ·rintro-w81 D81;rintro v81_27 rfl _ rfl;exact au (c6 (bf rfl rfl) (beq_iff_eq.2 hf1)) rfl
   constructor
   ·rintro-w82 D82;rintro _ rfl;exact au (aF (v:=.bool _) rfl) rfl
   constructor
   ·rintro-w83 D83;rintro _ rfl;exact aL rfl (aF (v:=.pointer _) rfl) rfl
   constructor
   ·rintro-w84 D84;rintro _ rfl _ rfl;exact aL rfl (av rfl) rfl
   constructor
   ·rintro-w85 D85;rintro _ rfl _ rfl;exact aL rfl (aa aD rfl) rfl
   constructor
   ·rintro-w86 D86;rintro _ rfl _ rfl;exact aL rfl (aa aB rfl) rfl
   constructor
   ·rintro-w87 D87;rintro _ rfl _ rfl;exact aL rfl (aa bw rfl) rfl
   constructor
   ·rintro-w88 D88;rintro _ rfl _ rfl;exact aL rfl (ar bF rfl (by exact (show _=some (Value.string p8.part) from (h6.from_ (ag.rfl_.next D88)).rd (fun _=>rfl)))) rfl
   constructor
   ·rintro-w89 D89;rintro _ rfl v89_42 rfl;exact aL rfl (df (by kernel_rfl) rfl) rfl
   constructor
   ·rintro-w90 D90;rintro _ rfl;exact aL rfl (aa dC rfl) rfl
   constructor
   ·rintro-w91 D91;rintro _ rfl _ rfl;exact aL rfl (ar bF rfl (by exact (show _=some (Value.string m.d) from ((h6.kept hzb hm9).from_ (ag.rfl_.next D91)).rd 11 rfl))) rfl
   constructor
   ·rintro-w92 D92;rintro _ rfl v92_45 rfl;exact aL rfl (df (by kernel_rfl) rfl) rfl
   constructor
   ·rintro-w93 D93;rintro _ rfl _ rfl _ rfl;exact aL rfl (cn rfl rfl (by omega)) rfl
   constructor
   ·rintro-w94 D94;rintro _ rfl v94_47 rfl;exact aL rfl (c6 (eT rfl rfl) (decide_eq_true hf3)) rfl
   constructor
   ·rintro-w95 D95;rintro _ rfl _ rfl;exact au (aM (v:=.bool _) rfl rfl) rfl
   constructor
   ·rintro-w96 D96;rintro _ rfl;exact au (cZ (v:=.bool _) rfl) rfl
   exact trivial
  case hend=>
   intro w97 D97;rintro _ rfl v27 rfl _ rfl _ rfl _ rfl _ rfl _ rfl v33 rfl _ rfl _ rfl _ rfl _ rfl _ rfl _ rfl _ rfl _ rfl v42 rfl _ rfl _ rfl v45 rfl _ rfl v47 rfl _ rfl _ rfl _ rfl;show St ..;refine an ?_;refine bL (_) ⟨rfl,trivial⟩ (by (iterate 25 refine bd rfl ?_);exact br) ?_;exact ⟨hfb.symm,h6.from_ (ag.rfl_.next D97)⟩
 rintro fb ρ98 w98 ⟨hfb,h7⟩;refine e_ (G:=Rf) [50,51,52,53,54,55,56,57,58,59,60,61,62,63] (fun _=>[(4,.bool fb)]) (fun u8 w'=>u8=qR p8 m fb∧aR wm Z7 w' T g ⟨u8,[]⟩) ?_ ?_
 ·refine ao (ah (mvb rfl (an (ai (aS rfl (fun Q99=>?_) (fun Q99=>?_))))))
  ·apply bK 9 [(51,eqp _),(52,eqp _),(53,eqp _),(54,eqp _),(55,eqp _),(56,eqp (.string p8.part)),(57,eqp _),(58,eqp (.string m.d)),(59,eqp (.string (p8.part++m.d)))] (by repeat first | exact ct | refine cr ?_ | refine bX ?_) (by kernel_rfl) (by kernel_rfl) ⟨aj _,aj _,aj _,aj _,aj _,aj _,aj _,aj _,aj _,trivial⟩
   case hop=>
    constructor
    ·rintro-w101 D101;exact au (aF (v:=.pointer _) rfl) rfl
    constructor
    ·rintro-w102 D102;rintro _ rfl;exact au (av rfl) rfl
    constructor
    ·rintro-w103 D103;rintro _ rfl;exact au (aa aD rfl) rfl
    constructor
    ·rintro-w104 D104;rintro _ rfl;exact au (aa aB rfl) rfl
    constructor
    ·rintro-w105 D105;rintro _ rfl;exact au (aa bw rfl) rfl
    constructor
    ·rintro-w106 D106;rintro _ rfl;exact au (ar bF rfl (by exact (show _=some (Value.string p8.part) from (h7.from_ (ag.rfl_.next D106)).rd (fun _=>rfl)))) rfl
    constructor
    ·rintro-w107 D107;exact au (aa dC rfl) rfl
    constructor
    ·rintro-w108 D108;rintro _ rfl;exact au (ar bF rfl (by exact (show _=some (Value.string m.d) from ((h7.kept hzb hm9).from_ (ag.rfl_.next D108)).rd 11 rfl))) rfl
    constructor
    ·rintro-w109 D109;rintro v109_56 rfl v109_58 rfl;exact au (uF rfl rfl (by omega)) rfl
    exact trivial
   case hend=>
    intro w110 D110;rintro _ rfl _ rfl _ rfl _ rfl _ rfl v56 rfl _ rfl v58 rfl v59 rfl;show St ..;refine ab (av rfl) (ab (aa aD rfl) (ab (aa aB rfl) (ab (aa bw rfl) (dU (s':=({ p8 with part:=p8.part++m.d }:Rf)) ep rfl rfl rfl (h7.from_ (ag.rfl_.next D110)) (fun _=>⟨by decide,rfl⟩) ⟨rfl,rfl,rfl,rfl,rfl,rfl⟩ ?_))));intro w111 h8;refine an ?_;refine bL ({ p8 with part:=p8.part++m.d }) ⟨rfl,trivial⟩ (by (iterate 14 refine bd rfl ?_);exact br) ?_
    first
     |(subst_vars;exact ⟨by simp_all [qR],h8.from_ ag.rfl_⟩)
     |(subst_vars;exact ⟨by simp_all [qR],h7.from_ ag.rfl_⟩)
  refine aO ?_;refine bL (p8) ⟨rfl,trivial⟩ (by (iterate 1 refine bd rfl ?_);exact br) ?_
  first
   |(subst_vars;exact ⟨by simp_all [qR],h8.from_ ag.rfl_⟩)
   |(subst_vars;exact ⟨by simp_all [qR],h7.from_ ag.rfl_⟩)
 rintro u8 ρ112 w112 ⟨hu8,h9⟩;obtain ⟨tgA,aA,OA,ocA,LA,hsA⟩:=h9.ex;obtain rfl:=hsA.nilL;refine ao (ao (ah (mvb rfl (ab (cp rfl) (mvb rfl (An (t:=66) rfl (fun Q113=>?_) (fun Q113=>?_)))))))
 ·refine aq rfl rfl (aq rfl rfl (aq rfl rfl (ab (aM (v:=.bool _) rfl rfl) (an (ai (aZ rfl (ao ?_)))))));apply fA [(0,71,fun _ v _=>v=_),(1,72,fun _ v _=>v=_),(2,73,fun S v w9=>S 15=false→(eqp (.int .i64 m.f)) v w9),(3,74,fun _ v _=>v=_),(4,75,fun S v w9=>S 15=false→(eqp (.int .i64 m.ix)) v w9),(5,76,fun _ v _=>v=_),(6,77,fun _ v _=>v=_),(7,78,fun _ v _=>v=_),(8,79,fun _ v _=>v=_),(9,80,fun _ v _=>v=_),(10,81,fun S v w9=>S 15=false→(eqp (.string u8.part)) v w9),(11,82,fun _ v _=>v=_),(12,83,fun _ v _=>v=_),(13,84,fun S v w9=>S 15=false→(eqp (.int .i64 m.rd)) v w9),(14,85,fun S v w9=>S 15=false→(eqp (.agg (bC ({ zM with k:=6,ix:=m.ix,a:=(u8.part.size:Int),rd:=m.rd }:Msg)).toArray)) v w9),(15,86,fun _ v _=>v=_)] [15] (fun S w'=>(S 15=false→ag w112 w')∧(S 15=true→aR wm Z7 w' T g (Sp.tell ⟨u8,[]⟩ { ({ zM with k:=6,ix:=m.ix,a:=(u8.part.size:Int),rd:=m.rd }:Msg) with t:=m.f }))) (by kernel_rfl) (by kernel_rfl) rfl rfl ⟨fun _ _ _ _ _ _ _ h=>h,fun _ _ _ _ _ _ _ h=>h,fun S i v w1 w2 hq hF h h0=>(aj _) v w1 w2 hF (h (dY h0)),fun _ _ _ _ _ _ _ h=>h,fun S i v w1 w2 hq hF h h0=>(aj _) v w1 w2 hF (h (dY h0)),fun _ _ _ _ _ _ _ h=>h,fun _ _ _ _ _ _ _ h=>h,fun _ _ _ _ _ _ _ h=>h,fun _ _ _ _ _ _ _ h=>h,fun _ _ _ _ _ _ _ h=>h,fun S i v w1 w2 hq hF h h0=>(aj _) v w1 w2 hF (h (dY h0)),fun _ _ _ _ _ _ _ h=>h,fun _ _ _ _ _ _ _ h=>h,fun S i v w1 w2 hq hF h h0=>(aj _) v w1 w2 hF (h (dY h0)),fun S i v w1 w2 hq hF h h0=>(aj _) v w1 w2 hF (h (dY h0)),fun _ _ _ _ _ _ _ h=>h,trivial⟩ (fun S i w1 w2 hq hF h=>⟨fun h0=>(h.1 (dY h0)).next hF,fun h1=>(fun h=>h.from_ hF) (h.2 (jr (show 15≠i by rintro rfl;exact absurd hq (by decide)) h1))⟩) ⟨fun _=>ag.rfl_.d1,fun h=>by cases h⟩
  case hstep=>
   constructor
   ·rintro S L' w114 hU hmo hme hI hM hC hS ⟨-⟩;have hS0:S 15=false:=(af hC (j:=15) rfl (by kernel_rfl) hS);have hM114:=hM.1 hS0;have e0:=hI.1 0 (dv rfl);exact az [(0,_)] hU hmo hme hI hM (.head _) rfl rfl (by kernel_rfl) ⟨e0,trivial⟩ (aF (v:=.pointer _) rfl) ag.rfl_ (rfl)
   constructor
   ·rintro S L' w115 hU hmo hme hI hM hC hS ⟨-⟩;have hS0:S 15=false:=(af hC (j:=15) rfl (by kernel_rfl) (af hC (j:=2) rfl (by kernel_rfl) hS));have hM115:=hM.1 hS0;have e3:=hI.1 3 (dv rfl);exact az [(3,_)] hU hmo hme hI hM (.tail _ (.head _)) rfl rfl (by kernel_rfl) ⟨e3,trivial⟩ (aa bY rfl) ag.rfl_ (rfl)
   constructor
   ·rintro S L' w116 hU hmo hme hI hM hC hS ⟨d1,-⟩;have hS0:S 15=false:=(af hC (j:=15) rfl (by kernel_rfl) hS);have hM116:=hM.1 hS0;obtain ⟨v116_72,e72,h72⟩:=hI.get (i:=1) (.tail _ (.head _)) d1;obtain rfl:=h72;exact az [(72,_)] hU hmo hme hI hM (gM 2 rfl) rfl rfl (by kernel_rfl) ⟨e72,trivial⟩ (ar ak rfl (by exact (show _=some (Value.int .i64 m.f) from ((h9.kept hzb hm9).from_ (ag.rfl_.next hM116)).rd 1 rfl))) ag.rfl_ (fun _=>rfl)
   constructor
   ·rintro S L' w117 hU hmo hme hI hM hC hS ⟨-⟩;have hS0:S 15=false:=(af hC (j:=15) rfl (by kernel_rfl) (af hC (j:=14) rfl (by kernel_rfl) (af hC (j:=4) rfl (by kernel_rfl) hS)));have hM117:=hM.1 hS0;have e3:=hI.1 3 (dv rfl);exact az [(3,_)] hU hmo hme hI hM (gM 3 rfl) rfl rfl (by kernel_rfl) ⟨e3,trivial⟩ (aa bJ rfl) ag.rfl_ (rfl)
   constructor
   ·rintro S L' w118 hU hmo hme hI hM hC hS ⟨d3,-⟩;have hS0:S 15=false:=(af hC (j:=15) rfl (by kernel_rfl) (af hC (j:=14) rfl (by kernel_rfl) hS));have hM118:=hM.1 hS0;obtain ⟨v118_74,e74,h74⟩:=hI.get (i:=3) (gM 3 rfl) d3;obtain rfl:=h74;exact az [(74,_)] hU hmo hme hI hM (gM 4 rfl) rfl rfl (by kernel_rfl) ⟨e74,trivial⟩ (ar ak rfl (by exact (show _=some (Value.int .i64 m.ix) from ((h9.kept hzb hm9).from_ (ag.rfl_.next hM118)).rd 4 rfl))) ag.rfl_ (fun _=>rfl)
   constructor
   ·rintro S L' w119 hU hmo hme hI hM hC hS ⟨-⟩;have hS0:S 15=false:=(af hC (j:=15) rfl (by kernel_rfl) (af hC (j:=14) rfl (by kernel_rfl) (af hC (j:=11) rfl (by kernel_rfl) (af hC (j:=10) rfl (by kernel_rfl) (af hC (j:=9) rfl (by kernel_rfl) (af hC (j:=8) rfl (by kernel_rfl) (af hC (j:=7) rfl (by kernel_rfl) (af hC (j:=6) rfl (by kernel_rfl) hS))))))));have hM119:=hM.1 hS0;have e0:=hI.1 0 (dv rfl);exact az [(0,_)] hU hmo hme hI hM (gM 5 rfl) rfl rfl (by kernel_rfl) ⟨e0,trivial⟩ (aF (v:=.pointer _) rfl) ag.rfl_ (rfl)
   constructor
   ·rintro S L' w120 hU hmo hme hI hM hC hS ⟨d5,-⟩;have hS0:S 15=false:=(af hC (j:=15) rfl (by kernel_rfl) (af hC (j:=14) rfl (by kernel_rfl) (af hC (j:=11) rfl (by kernel_rfl) (af hC (j:=10) rfl (by kernel_rfl) (af hC (j:=9) rfl (by kernel_rfl) (af hC (j:=8) rfl (by kernel_rfl) (af hC (j:=7) rfl (by kernel_rfl) hS)))))));have hM120:=hM.1 hS0;obtain ⟨v120_76,e76,h76⟩:=hI.get (i:=5) (gM 5 rfl) d5;obtain rfl:=h76;exact az [(76,_)] hU hmo hme hI hM (gM 6 rfl) rfl rfl (by kernel_rfl) ⟨e76,trivial⟩ (av rfl) ag.rfl_ (rfl)
   constructor
   ·rintro S L' w121 hU hmo hme hI hM hC hS ⟨d6,-⟩;have hS0:S 15=false:=(af hC (j:=15) rfl (by kernel_rfl) (af hC (j:=14) rfl (by kernel_rfl) (af hC (j:=11) rfl (by kernel_rfl) (af hC (j:=10) rfl (by kernel_rfl) (af hC (j:=9) rfl (by kernel_rfl) (af hC (j:=8) rfl (by kernel_rfl) hS))))));have hM121:=hM.1 hS0;obtain ⟨v121_77,e77,h77⟩:=hI.get (i:=6) (gM 6 rfl) d6;obtain rfl:=h77;exact az [(77,_)] hU hmo hme hI hM (gM 7 rfl) rfl rfl (by kernel_rfl) ⟨e77,trivial⟩ (aa aD rfl) ag.rfl_ (rfl)
   constructor
   ·rintro S L' w122 hU hmo hme hI hM hC hS ⟨d7,-⟩;have hS0:S 15=false:=(af hC (j:=15) rfl (by kernel_rfl) (af hC (j:=14) rfl (by kernel_rfl) (af hC (j:=11) rfl (by kernel_rfl) (af hC (j:=10) rfl (by kernel_rfl) (af hC (j:=9) rfl (by kernel_rfl) hS)))));have hM122:=hM.1 hS0;obtain ⟨v122_78,e78,h78⟩:=hI.get (i:=7) (gM 7 rfl) d7;obtain rfl:=h78;exact az [(78,_)] hU hmo hme hI hM (gM 8 rfl) rfl rfl (by kernel_rfl) ⟨e78,trivial⟩ (aa aB rfl) ag.rfl_ (rfl)
   constructor
   ·rintro S L' w123 hU hmo hme hI hM hC hS ⟨d8,-⟩;have hS0:S 15=false:=(af hC (j:=15) rfl (by kernel_rfl) (af hC (j:=14) rfl (by kernel_rfl) (af hC (j:=11) rfl (by kernel_rfl) (af hC (j:=10) rfl (by kernel_rfl) hS))));have hM123:=hM.1 hS0;obtain ⟨v123_79,e79,h79⟩:=hI.get (i:=8) (gM 8 rfl) d8;obtain rfl:=h79;exact az [(79,_)] hU hmo hme hI hM (gM 9 rfl) rfl rfl (by kernel_rfl) ⟨e79,trivial⟩ (aa bw rfl) ag.rfl_ (rfl)
   constructor
   ·rintro S L' w124 hU hmo hme hI hM hC hS ⟨d9,-⟩;have hS0:S 15=false:=(af hC (j:=15) rfl (by kernel_rfl) (af hC (j:=14) rfl (by kernel_rfl) (af hC (j:=11) rfl (by kernel_rfl) hS)));have hM124:=hM.1 hS0;obtain ⟨v124_80,e80,h80⟩:=hI.get (i:=9) (gM 9 rfl) d9;obtain rfl:=h80;exact az [(80,_)] hU hmo hme hI hM (gM 10 rfl) rfl rfl (by kernel_rfl) ⟨e80,trivial⟩ (ar bF rfl (by exact (show _=some (Value.string u8.part) from (h9.from_ (ag.rfl_.next hM124)).rd (fun _=>rfl)))) ag.rfl_ (fun _=>rfl)
   constructor
   ·rintro S L' w125 hU hmo hme hI hM hC hS ⟨d10,-⟩;have hS0:S 15=false:=(af hC (j:=15) rfl (by kernel_rfl) (af hC (j:=14) rfl (by kernel_rfl) hS));have hM125:=hM.1 hS0;obtain ⟨v125_81,e81,h81⟩:=hI.get (i:=10) (gM 10 rfl) d10;obtain rfl:=h81 hS0;exact az [(81,_)] hU hmo hme hI hM (gM 11 rfl) rfl rfl (by kernel_rfl) ⟨e81,trivial⟩ (df (by kernel_rfl) rfl) ag.rfl_ (rfl)
   constructor
   ·rintro S L' w126 hU hmo hme hI hM hC hS ⟨-⟩;have hS0:S 15=false:=(af hC (j:=15) rfl (by kernel_rfl) (af hC (j:=14) rfl (by kernel_rfl) (af hC (j:=13) rfl (by kernel_rfl) hS)));have hM126:=hM.1 hS0;have e3:=hI.1 3 (dv rfl);exact az [(3,_)] hU hmo hme hI hM (gM 12 rfl) rfl rfl (by kernel_rfl) ⟨e3,trivial⟩ (aa dk rfl) ag.rfl_ (rfl)
   constructor
   ·rintro S L' w127 hU hmo hme hI hM hC hS ⟨d12,-⟩;have hS0:S 15=false:=(af hC (j:=15) rfl (by kernel_rfl) (af hC (j:=14) rfl (by kernel_rfl) hS));have hM127:=hM.1 hS0;obtain ⟨v127_83,e83,h83⟩:=hI.get (i:=12) (gM 12 rfl) d12;obtain rfl:=h83;exact az [(83,_)] hU hmo hme hI hM (gM 13 rfl) rfl rfl (by kernel_rfl) ⟨e83,trivial⟩ (ar ak rfl (by exact (show _=some (Value.int .i64 m.rd) from ((h9.kept hzb hm9).from_ (ag.rfl_.next hM127)).rd 7 rfl))) ag.rfl_ (fun _=>rfl)
   constructor
   ·rintro S L' w128 hU hmo hme hI hM hC hS ⟨d4,d11,d13,-⟩;have hS0:S 15=false:=(af hC (j:=15) rfl (by kernel_rfl) hS);have hM128:=hM.1 hS0;obtain ⟨v128_75,e75,h75⟩:=hI.get (i:=4) (gM 4 rfl) d4;obtain rfl:=h75 hS0;obtain ⟨v128_82,e82,h82⟩:=hI.get (i:=11) (gM 11 rfl) d11;obtain rfl:=h82;obtain ⟨v128_84,e84,h84⟩:=hI.get (i:=13) (gM 13 rfl) d13;obtain rfl:=h84 hS0;exact az [(75,_),(82,_),(84,_)] hU hmo hme hI hM (gM 14 rfl) rfl rfl (by kernel_rfl) ⟨e75,e82,e84,trivial⟩ (cl (l:=[(0,.const (.int .i64 6)),(4,.tmp 75),(10,.tmp 82),(7,.tmp 84)]) (fZ _ _ _)) ag.rfl_ (fun _=>rfl)
   constructor
   ·rintro S L' w129 hU hmo hme hI hM hC hS ⟨d0,d2,d14,-⟩;have hS0:S 15=false:=hS;have hM129:=hM.1 hS0;obtain ⟨v129_71,e71,h71⟩:=hI.get (i:=0) (.head _) d0;obtain rfl:=h71;obtain ⟨v129_73,e73,h73⟩:=hI.get (i:=2) (gM 2 rfl) d2;obtain rfl:=h73 hS0;obtain ⟨v129_85,e85,h85⟩:=hI.get (i:=14) (gM 14 rfl) d14;obtain rfl:=h85 hS0;refine dV (al:=[.tmp 71,.tmp 73,.tmp 85]) [(71,_),(73,_),(85,_)] hU hI (gM 15 rfl) (by kernel_rfl) ⟨e71,e73,e85,trivial⟩ gd ((lJ wm Z7 T g ⟨u8,[]⟩ _ (h9.from_ (ag.rfl_.next hM129)) _ _ _ _ _ (hsA.from_ (ag.rfl_.next hM129)) (Nat.zero_le _) ({ zM with k:=6,ix:=m.ix,a:=(u8.part.size:Int),rd:=m.rd }:Msg) m.f ⟨du,Col.none⟩).mono ?_);rintro v9 w2 ⟨rfl,hS2⟩;exact ⟨⟨fun h0=>(by rw [dS] at h0;cases h0),fun _=>hS2⟩,rfl,⟨fun _ _ _ h=>h,fun _ _ _ h=>h,fun _ _ _ _ h0=>(by rw [dS] at h0;cases h0),fun _ _ _ h=>h,fun _ _ _ _ h0=>(by rw [dS] at h0;cases h0),fun _ _ _ h=>h,fun _ _ _ h=>h,fun _ _ _ h=>h,fun _ _ _ h=>h,fun _ _ _ h=>h,fun _ _ _ _ h0=>(by rw [dS] at h0;cases h0),fun _ _ _ h=>h,fun _ _ _ h=>h,fun _ _ _ _ h0=>(by rw [dS] at h0;cases h0),fun _ _ _ _ h0=>(by rw [dS] at h0;cases h0),fun _ _ _ h=>h,trivial⟩⟩
   exact trivial
  case hend=>
   intro w130 hM;obtain hS9:=hM.2 rfl;rintro v130_71 rfl v130_72 rfl v130_73-v130_74 rfl v130_75-v130_76 rfl v130_77 rfl v130_78 rfl v130_79 rfl v130_80 rfl v130_81-v130_82 rfl v130_83 rfl v130_84-v130_85-v130_86 rfl;refine ef (ai (aE (aG (eg rfl ?_))));rw [qK hp8 hfb hu8 (by cases fb <;> simp_all)];exact ⟨rfl,h.back hE3 (hS9.from_ ag.rfl_) hzi⟩
 refine ae rfl (ab (aa fp rfl) (ae rfl (ab (ar ft rfl (by exact (show _=some (Value.bool m.dn) from ((h9.kept hzb hm9).from_ ag.rfl_).rd 12 rfl))) ?_)));refine ae rfl (ab (cp rfl) (ab (ay (v:=.bool _) rfl rfl) (an (ai (AR rfl (fun Q131=>?_) (fun Q131=>?_))))))
 ·refine ao ?_;apply fA [(0,71,fun _ v _=>v=_),(1,72,fun _ v _=>v=_),(2,73,fun S v w9=>S 15=false→(eqp (.int .i64 m.f)) v w9),(3,74,fun _ v _=>v=_),(4,75,fun S v w9=>S 15=false→(eqp (.int .i64 m.ix)) v w9),(5,76,fun _ v _=>v=_),(6,77,fun _ v _=>v=_),(7,78,fun _ v _=>v=_),(8,79,fun _ v _=>v=_),(9,80,fun _ v _=>v=_),(10,81,fun S v w9=>S 15=false→(eqp (.string u8.part)) v w9),(11,82,fun _ v _=>v=_),(12,83,fun _ v _=>v=_),(13,84,fun S v w9=>S 15=false→(eqp (.int .i64 m.rd)) v w9),(14,85,fun S v w9=>S 15=false→(eqp (.agg (bC ({ zM with k:=6,ix:=m.ix,a:=(u8.part.size:Int),rd:=m.rd }:Msg)).toArray)) v w9),(15,86,fun _ v _=>v=_)] [15] (fun S w'=>(S 15=false→ag w112 w')∧(S 15=true→aR wm Z7 w' T g (Sp.tell ⟨u8,[]⟩ { ({ zM with k:=6,ix:=m.ix,a:=(u8.part.size:Int),rd:=m.rd }:Msg) with t:=m.f }))) (by kernel_rfl) (by kernel_rfl) rfl rfl ⟨fun _ _ _ _ _ _ _ h=>h,fun _ _ _ _ _ _ _ h=>h,fun S i v w1 w2 hq hF h h0=>(aj _) v w1 w2 hF (h (dY h0)),fun _ _ _ _ _ _ _ h=>h,fun S i v w1 w2 hq hF h h0=>(aj _) v w1 w2 hF (h (dY h0)),fun _ _ _ _ _ _ _ h=>h,fun _ _ _ _ _ _ _ h=>h,fun _ _ _ _ _ _ _ h=>h,fun _ _ _ _ _ _ _ h=>h,fun _ _ _ _ _ _ _ h=>h,fun S i v w1 w2 hq hF h h0=>(aj _) v w1 w2 hF (h (dY h0)),fun _ _ _ _ _ _ _ h=>h,fun _ _ _ _ _ _ _ h=>h,fun S i v w1 w2 hq hF h h0=>(aj _) v w1 w2 hF (h (dY h0)),fun S i v w1 w2 hq hF h h0=>(aj _) v w1 w2 hF (h (dY h0)),fun _ _ _ _ _ _ _ h=>h,trivial⟩ (fun S i w1 w2 hq hF h=>⟨fun h0=>(h.1 (dY h0)).next hF,fun h1=>(fun h=>h.from_ hF) (h.2 (jr (show 15≠i by rintro rfl;exact absurd hq (by decide)) h1))⟩) ⟨fun _=>ag.rfl_.d1,fun h=>by cases h⟩
  case hstep=>
   constructor
   ·rintro S L' w132 hU hmo hme hI hM hC hS ⟨-⟩;have hS0:S 15=false:=(af hC (j:=15) rfl (by kernel_rfl) hS);have hM132:=hM.1 hS0;have e0:=hI.1 0 (dv rfl);exact az [(0,_)] hU hmo hme hI hM (.head _) rfl rfl (by kernel_rfl) ⟨e0,trivial⟩ (aF (v:=.pointer _) rfl) ag.rfl_ (rfl)
   constructor
   ·rintro S L' w133 hU hmo hme hI hM hC hS ⟨-⟩;have hS0:S 15=false:=(af hC (j:=15) rfl (by kernel_rfl) (af hC (j:=2) rfl (by kernel_rfl) hS));have hM133:=hM.1 hS0;have e3:=hI.1 3 (dv rfl);exact az [(3,_)] hU hmo hme hI hM (.tail _ (.head _)) rfl rfl (by kernel_rfl) ⟨e3,trivial⟩ (aa bY rfl) ag.rfl_ (rfl)
   constructor
   ·rintro S L' w134 hU hmo hme hI hM hC hS ⟨d1,-⟩;have hS0:S 15=false:=(af hC (j:=15) rfl (by kernel_rfl) hS);have hM134:=hM.1 hS0;obtain ⟨v134_72,e72,h72⟩:=hI.get (i:=1) (.tail _ (.head _)) d1;obtain rfl:=h72;exact az [(72,_)] hU hmo hme hI hM (gM 2 rfl) rfl rfl (by kernel_rfl) ⟨e72,trivial⟩ (ar ak rfl (by exact (show _=some (Value.int .i64 m.f) from ((h9.kept hzb hm9).from_ (ag.rfl_.next hM134)).rd 1 rfl))) ag.rfl_ (fun _=>rfl)
   constructor
   ·rintro S L' w135 hU hmo hme hI hM hC hS ⟨-⟩;have hS0:S 15=false:=(af hC (j:=15) rfl (by kernel_rfl) (af hC (j:=14) rfl (by kernel_rfl) (af hC (j:=4) rfl (by kernel_rfl) hS)));have hM135:=hM.1 hS0;have e3:=hI.1 3 (dv rfl);exact az [(3,_)] hU hmo hme hI hM (gM 3 rfl) rfl rfl (by kernel_rfl) ⟨e3,trivial⟩ (aa bJ rfl) ag.rfl_ (rfl)
   constructor
   ·rintro S L' w136 hU hmo hme hI hM hC hS ⟨d3,-⟩;have hS0:S 15=false:=(af hC (j:=15) rfl (by kernel_rfl) (af hC (j:=14) rfl (by kernel_rfl) hS));have hM136:=hM.1 hS0;obtain ⟨v136_74,e74,h74⟩:=hI.get (i:=3) (gM 3 rfl) d3;obtain rfl:=h74;exact az [(74,_)] hU hmo hme hI hM (gM 4 rfl) rfl rfl (by kernel_rfl) ⟨e74,trivial⟩ (ar ak rfl (by exact (show _=some (Value.int .i64 m.ix) from ((h9.kept hzb hm9).from_ (ag.rfl_.next hM136)).rd 4 rfl))) ag.rfl_ (fun _=>rfl)
   constructor
   ·rintro S L' w137 hU hmo hme hI hM hC hS ⟨-⟩;have hS0:S 15=false:=(af hC (j:=15) rfl (by kernel_rfl) (af hC (j:=14) rfl (by kernel_rfl) (af hC (j:=11) rfl (by kernel_rfl) (af hC (j:=10) rfl (by kernel_rfl) (af hC (j:=9) rfl (by kernel_rfl) (af hC (j:=8) rfl (by kernel_rfl) (af hC (j:=7) rfl (by kernel_rfl) (af hC (j:=6) rfl (by kernel_rfl) hS))))))));have hM137:=hM.1 hS0;have e0:=hI.1 0 (dv rfl);exact az [(0,_)] hU hmo hme hI hM (gM 5 rfl) rfl rfl (by kernel_rfl) ⟨e0,trivial⟩ (aF (v:=.pointer _) rfl) ag.rfl_ (rfl)
   constructor
   ·rintro S L' w138 hU hmo hme hI hM hC hS ⟨d5,-⟩;have hS0:S 15=false:=(af hC (j:=15) rfl (by kernel_rfl) (af hC (j:=14) rfl (by kernel_rfl) (af hC (j:=11) rfl (by kernel_rfl) (af hC (j:=10) rfl (by kernel_rfl) (af hC (j:=9) rfl (by kernel_rfl) (af hC (j:=8) rfl (by kernel_rfl) (af hC (j:=7) rfl (by kernel_rfl) hS)))))));have hM138:=hM.1 hS0;obtain ⟨v138_76,e76,h76⟩:=hI.get (i:=5) (gM 5 rfl) d5;obtain rfl:=h76;exact az [(76,_)] hU hmo hme hI hM (gM 6 rfl) rfl rfl (by kernel_rfl) ⟨e76,trivial⟩ (av rfl) ag.rfl_ (rfl)
   constructor
   ·rintro S L' w139 hU hmo hme hI hM hC hS ⟨d6,-⟩;have hS0:S 15=false:=(af hC (j:=15) rfl (by kernel_rfl) (af hC (j:=14) rfl (by kernel_rfl) (af hC (j:=11) rfl (by kernel_rfl) (af hC (j:=10) rfl (by kernel_rfl) (af hC (j:=9) rfl (by kernel_rfl) (af hC (j:=8) rfl (by kernel_rfl) hS))))));have hM139:=hM.1 hS0;obtain ⟨v139_77,e77,h77⟩:=hI.get (i:=6) (gM 6 rfl) d6;obtain rfl:=h77;exact az [(77,_)] hU hmo hme hI hM (gM 7 rfl) rfl rfl (by kernel_rfl) ⟨e77,trivial⟩ (aa aD rfl) ag.rfl_ (rfl)
   constructor
   ·rintro S L' w140 hU hmo hme hI hM hC hS ⟨d7,-⟩;have hS0:S 15=false:=(af hC (j:=15) rfl (by kernel_rfl) (af hC (j:=14) rfl (by kernel_rfl) (af hC (j:=11) rfl (by kernel_rfl) (af hC (j:=10) rfl (by kernel_rfl) (af hC (j:=9) rfl (by kernel_rfl) hS)))));have hM140:=hM.1 hS0;obtain ⟨v140_78,e78,h78⟩:=hI.get (i:=7) (gM 7 rfl) d7;obtain rfl:=h78;exact az [(78,_)] hU hmo hme hI hM (gM 8 rfl) rfl rfl (by kernel_rfl) ⟨e78,trivial⟩ (aa aB rfl) ag.rfl_ (rfl)
   constructor
   ·rintro S L' w141 hU hmo hme hI hM hC hS ⟨d8,-⟩;have hS0:S 15=false:=(af hC (j:=15) rfl (by kernel_rfl) (af hC (j:=14) rfl (by kernel_rfl) (af hC (j:=11) rfl (by kernel_rfl) (af hC (j:=10) rfl (by kernel_rfl) hS))));have hM141:=hM.1 hS0;obtain ⟨v141_79,e79,h79⟩:=hI.get (i:=8) (gM 8 rfl) d8;obtain rfl:=h79;exact az [(79,_)] hU hmo hme hI hM (gM 9 rfl) rfl rfl (by kernel_rfl) ⟨e79,trivial⟩ (aa bw rfl) ag.rfl_ (rfl)
   constructor
   ·rintro S L' w142 hU hmo hme hI hM hC hS ⟨d9,-⟩;have hS0:S 15=false:=(af hC (j:=15) rfl (by kernel_rfl) (af hC (j:=14) rfl (by kernel_rfl) (af hC (j:=11) rfl (by kernel_rfl) hS)));have hM142:=hM.1 hS0;obtain ⟨v142_80,e80,h80⟩:=hI.get (i:=9) (gM 9 rfl) d9;obtain rfl:=h80;exact az [(80,_)] hU hmo hme hI hM (gM 10 rfl) rfl rfl (by kernel_rfl) ⟨e80,trivial⟩ (ar bF rfl (by exact (show _=some (Value.string u8.part) from (h9.from_ (ag.rfl_.next hM142)).rd (fun _=>rfl)))) ag.rfl_ (fun _=>rfl)
   constructor
   ·rintro S L' w143 hU hmo hme hI hM hC hS ⟨d10,-⟩;have hS0:S 15=false:=(af hC (j:=15) rfl (by kernel_rfl) (af hC (j:=14) rfl (by kernel_rfl) hS));have hM143:=hM.1 hS0;obtain ⟨v143_81,e81,h81⟩:=hI.get (i:=10) (gM 10 rfl) d10;obtain rfl:=h81 hS0;exact az [(81,_)] hU hmo hme hI hM (gM 11 rfl) rfl rfl (by kernel_rfl) ⟨e81,trivial⟩ (df (by kernel_rfl) rfl) ag.rfl_ (rfl)
   constructor
   ·rintro S L' w144 hU hmo hme hI hM hC hS ⟨-⟩;have hS0:S 15=false:=(af hC (j:=15) rfl (by kernel_rfl) (af hC (j:=14) rfl (by kernel_rfl) (af hC (j:=13) rfl (by kernel_rfl) hS)));have hM144:=hM.1 hS0;have e3:=hI.1 3 (dv rfl);exact az [(3,_)] hU hmo hme hI hM (gM 12 rfl) rfl rfl (by kernel_rfl) ⟨e3,trivial⟩ (aa dk rfl) ag.rfl_ (rfl)
   constructor
   ·rintro S L' w145 hU hmo hme hI hM hC hS ⟨d12,-⟩;have hS0:S 15=false:=(af hC (j:=15) rfl (by kernel_rfl) (af hC (j:=14) rfl (by kernel_rfl) hS));have hM145:=hM.1 hS0;obtain ⟨v145_83,e83,h83⟩:=hI.get (i:=12) (gM 12 rfl) d12;obtain rfl:=h83;exact az [(83,_)] hU hmo hme hI hM (gM 13 rfl) rfl rfl (by kernel_rfl) ⟨e83,trivial⟩ (ar ak rfl (by exact (show _=some (Value.int .i64 m.rd) from ((h9.kept hzb hm9).from_ (ag.rfl_.next hM145)).rd 7 rfl))) ag.rfl_ (fun _=>rfl)
   constructor
   ·rintro S L' w146 hU hmo hme hI hM hC hS ⟨d4,d11,d13,-⟩;have hS0:S 15=false:=(af hC (j:=15) rfl (by kernel_rfl) hS);have hM146:=hM.1 hS0;obtain ⟨v146_75,e75,h75⟩:=hI.get (i:=4) (gM 4 rfl) d4;obtain rfl:=h75 hS0;obtain ⟨v146_82,e82,h82⟩:=hI.get (i:=11) (gM 11 rfl) d11;obtain rfl:=h82;obtain ⟨v146_84,e84,h84⟩:=hI.get (i:=13) (gM 13 rfl) d13;obtain rfl:=h84 hS0;exact az [(75,_),(82,_),(84,_)] hU hmo hme hI hM (gM 14 rfl) rfl rfl (by kernel_rfl) ⟨e75,e82,e84,trivial⟩ (cl (l:=[(0,.const (.int .i64 6)),(4,.tmp 75),(10,.tmp 82),(7,.tmp 84)]) (fZ _ _ _)) ag.rfl_ (fun _=>rfl)
   constructor
   ·rintro S L' w147 hU hmo hme hI hM hC hS ⟨d0,d2,d14,-⟩;have hS0:S 15=false:=hS;have hM147:=hM.1 hS0;obtain ⟨v147_71,e71,h71⟩:=hI.get (i:=0) (.head _) d0;obtain rfl:=h71;obtain ⟨v147_73,e73,h73⟩:=hI.get (i:=2) (gM 2 rfl) d2;obtain rfl:=h73 hS0;obtain ⟨v147_85,e85,h85⟩:=hI.get (i:=14) (gM 14 rfl) d14;obtain rfl:=h85 hS0;refine dV (al:=[.tmp 71,.tmp 73,.tmp 85]) [(71,_),(73,_),(85,_)] hU hI (gM 15 rfl) (by kernel_rfl) ⟨e71,e73,e85,trivial⟩ gd ((lJ wm Z7 T g ⟨u8,[]⟩ _ (h9.from_ (ag.rfl_.next hM147)) _ _ _ _ _ (hsA.from_ (ag.rfl_.next hM147)) (Nat.zero_le _) ({ zM with k:=6,ix:=m.ix,a:=(u8.part.size:Int),rd:=m.rd }:Msg) m.f ⟨du,Col.none⟩).mono ?_);rintro v9 w2 ⟨rfl,hS2⟩;exact ⟨⟨fun h0=>(by rw [dS] at h0;cases h0),fun _=>hS2⟩,rfl,⟨fun _ _ _ h=>h,fun _ _ _ h=>h,fun _ _ _ _ h0=>(by rw [dS] at h0;cases h0),fun _ _ _ h=>h,fun _ _ _ _ h0=>(by rw [dS] at h0;cases h0),fun _ _ _ h=>h,fun _ _ _ h=>h,fun _ _ _ h=>h,fun _ _ _ h=>h,fun _ _ _ h=>h,fun _ _ _ _ h0=>(by rw [dS] at h0;cases h0),fun _ _ _ h=>h,fun _ _ _ h=>h,fun _ _ _ _ h0=>(by rw [dS] at h0;cases h0),fun _ _ _ _ h0=>(by rw [dS] at h0;cases h0),fun _ _ _ h=>h,trivial⟩⟩
   exact trivial
  case hend=>
   intro w148 hM;obtain hS9:=hM.2 rfl;rintro v148_71 rfl v148_72 rfl v148_73-v148_74 rfl v148_75-v148_76 rfl v148_77 rfl v148_78 rfl v148_79 rfl v148_80 rfl v148_81-v148_82 rfl v148_83 rfl v148_84-v148_85-v148_86 rfl;refine ef (ai (aE (aG (eg rfl ?_))));rw [qK hp8 hfb hu8 (by cases fb <;> simp_all)];exact ⟨rfl,h.back hE3 (hS9.from_ ag.rfl_) hzi⟩
 refine aO (ai (ao (ah (mvp rfl (ab (aa bJ rfl) (ab (ar ak rfl (by exact (show _=some (Value.int .i64 m.ix) from ((h9.kept hzb hm9).from_ ag.rfl_).rd 4 rfl))) ?_))))));refine ab (aa cG rfl) (ab (ar ak rfl (by exact (show _=some (Value.int .i64 m.lt) from ((h9.kept hzb hm9).from_ ag.rfl_).rd 5 rfl))) ?_);have hq8:=wN p8 m fb;have hp9:=wP s m;rw [←hu8] at hq8;rw [←hp8] at hp9;have hmU:cj u8.b u8.t u8.es=true:=by rw [hq8.1,hq8.2.1,hq8.2.2.1,hp9.1,hp9.2.1,hp9.2.2.1];exact hm
 have hlU:dh u8.b u8.es=bm u8:=rfl;have hiU:u8.b<m.ix∧m.ix≤1099511625728:=by rw [hq8.1,hp9.1];exact hi
 refine aC sL (tz wm Z7 T g u8 m.ix m.lt _ (h9.from_ ag.rfl_) hmU hlU hiU) ?_;rintro v92 w149 ⟨rfl,h10⟩;refine an (ai ?_);apply fA [(0,93,fun _ v _=>v=_),(1,94,fun S v w9=>S 8=false→(eqp (.agg (bC m).toArray)) v w9),(2,95,fun _ v _=>v=_),(3,96,fun _ v _=>v=_),(4,97,fun _ v _=>v=_),(5,98,fun _ v _=>v=_),(6,99,fun _ v _=>v=_),(7,100,fun S v w9=>S 8=false→(eqp (.int .i64 m.ix)) v w9),(8,101,fun _ v _=>v=_)] [8] (fun S w'=>(S 8=false→ag w149 w')∧(S 8=true→aR wm Z7 w' T g (iI ⟨jQ u8 m.ix m.lt,[]⟩ m true m.ix))) (by kernel_rfl) (by kernel_rfl) rfl rfl ⟨fun _ _ _ _ _ _ _ h=>h,fun S i v w1 w2 hq hF h h0=>(aj _) v w1 w2 hF (h (dY h0)),fun _ _ _ _ _ _ _ h=>h,fun _ _ _ _ _ _ _ h=>h,fun _ _ _ _ _ _ _ h=>h,fun _ _ _ _ _ _ _ h=>h,fun _ _ _ _ _ _ _ h=>h,fun S i v w1 w2 hq hF h h0=>(aj _) v w1 w2 hF (h (dY h0)),fun _ _ _ _ _ _ _ h=>h,trivial⟩ (fun S i w1 w2 hq hF h=>⟨fun h0=>(h.1 (dY h0)).next hF,fun h1=>(fun h=>h.from_ hF) (h.2 (jr (show 8≠i by rintro rfl;exact absurd hq (by decide)) h1))⟩) ⟨fun _=>ag.rfl_.d1,fun h=>by cases h⟩
 case hstep=>
  constructor
  ·rintro S L' w150 hU hmo hme hI hM hC hS ⟨-⟩;have hS0:S 8=false:=(af hC (j:=8) rfl (by kernel_rfl) hS);have hM150:=hM.1 hS0;have e0:=hI.1 0 (dv rfl);exact az [(0,_)] hU hmo hme hI hM (.head _) rfl rfl (by kernel_rfl) ⟨e0,trivial⟩ (aF (v:=.pointer _) rfl) ag.rfl_ (rfl)
  constructor
  ·rintro S L' w151 hU hmo hme hI hM hC hS ⟨-⟩;have hS0:S 8=false:=(af hC (j:=8) rfl (by kernel_rfl) hS);have hM151:=hM.1 hS0;have e3:=hI.1 3 (dv rfl);exact az [(3,_)] hU hmo hme hI hM (.tail _ (.head _)) rfl rfl (by kernel_rfl) ⟨e3,trivial⟩ ((aH (cs:=bC m) bj aY rfl (((h10.kept hzb hm9).from_ (ag.rfl_.next hM151)).whole))) (ag.rfl_) (fun _=>rfl)
  constructor
  ·rintro S L' w152 hU hmo hme hI hM hC hS ⟨-⟩;have hS0:S 8=false:=(af hC (j:=8) rfl (by kernel_rfl) (af hC (j:=7) rfl (by kernel_rfl) (af hC (j:=6) rfl (by kernel_rfl) (af hC (j:=5) rfl (by kernel_rfl) (af hC (j:=4) rfl (by kernel_rfl) (af hC (j:=3) rfl (by kernel_rfl) hS))))));have hM152:=hM.1 hS0;have e0:=hI.1 0 (dv rfl);exact az [(0,_)] hU hmo hme hI hM (gM 2 rfl) rfl rfl (by kernel_rfl) ⟨e0,trivial⟩ (aF (v:=.pointer _) rfl) ag.rfl_ (rfl)
  constructor
  ·rintro S L' w153 hU hmo hme hI hM hC hS ⟨d2,-⟩;have hS0:S 8=false:=(af hC (j:=8) rfl (by kernel_rfl) (af hC (j:=7) rfl (by kernel_rfl) (af hC (j:=6) rfl (by kernel_rfl) (af hC (j:=5) rfl (by kernel_rfl) (af hC (j:=4) rfl (by kernel_rfl) hS)))));have hM153:=hM.1 hS0;obtain ⟨v153_95,e95,h95⟩:=hI.get (i:=2) (gM 2 rfl) d2;obtain rfl:=h95;exact az [(95,_)] hU hmo hme hI hM (gM 3 rfl) rfl rfl (by kernel_rfl) ⟨e95,trivial⟩ (av rfl) ag.rfl_ (rfl)
  constructor
  ·rintro S L' w154 hU hmo hme hI hM hC hS ⟨d3,-⟩;have hS0:S 8=false:=(af hC (j:=8) rfl (by kernel_rfl) (af hC (j:=7) rfl (by kernel_rfl) (af hC (j:=6) rfl (by kernel_rfl) (af hC (j:=5) rfl (by kernel_rfl) hS))));have hM154:=hM.1 hS0;obtain ⟨v154_96,e96,h96⟩:=hI.get (i:=3) (gM 3 rfl) d3;obtain rfl:=h96;exact az [(96,_)] hU hmo hme hI hM (gM 4 rfl) rfl rfl (by kernel_rfl) ⟨e96,trivial⟩ (aa aD rfl) ag.rfl_ (rfl)
  constructor
  ·rintro S L' w155 hU hmo hme hI hM hC hS ⟨d4,-⟩;have hS0:S 8=false:=(af hC (j:=8) rfl (by kernel_rfl) (af hC (j:=7) rfl (by kernel_rfl) (af hC (j:=6) rfl (by kernel_rfl) hS)));have hM155:=hM.1 hS0;obtain ⟨v155_97,e97,h97⟩:=hI.get (i:=4) (gM 4 rfl) d4;obtain rfl:=h97;exact az [(97,_)] hU hmo hme hI hM (gM 5 rfl) rfl rfl (by kernel_rfl) ⟨e97,trivial⟩ (aa aB rfl) ag.rfl_ (rfl)
  constructor
  ·rintro S L' w156 hU hmo hme hI hM hC hS ⟨d5,-⟩;have hS0:S 8=false:=(af hC (j:=8) rfl (by kernel_rfl) (af hC (j:=7) rfl (by kernel_rfl) hS));have hM156:=hM.1 hS0;obtain ⟨v156_98,e98,h98⟩:=hI.get (i:=5) (gM 5 rfl) d5;obtain rfl:=h98;exact az [(98,_)] hU hmo hme hI hM (gM 6 rfl) rfl rfl (by kernel_rfl) ⟨e98,trivial⟩ (aa bW rfl) ag.rfl_ (rfl)
  constructor
  ·rintro S L' w157 hU hmo hme hI hM hC hS ⟨d6,-⟩;have hS0:S 8=false:=(af hC (j:=8) rfl (by kernel_rfl) hS);have hM157:=hM.1 hS0;obtain ⟨v157_99,e99,h99⟩:=hI.get (i:=6) (gM 6 rfl) d6;obtain rfl:=h99;exact az [(99,_)] hU hmo hme hI hM (gM 7 rfl) rfl rfl (by kernel_rfl) ⟨e99,trivial⟩ (ar ak rfl (by exact (show _=some (Value.int .i64 m.ix) from (h10.from_ (ag.rfl_.next hM157)).rd (fun _=>rfl)))) ag.rfl_ (fun _=>rfl)
  constructor
  ·rintro S L' w158 hU hmo hme hI hM hC hS ⟨d0,d1,d7,-⟩;have hS0:S 8=false:=hS;have hM158:=hM.1 hS0;obtain ⟨v158_93,e93,h93⟩:=hI.get (i:=0) (.head _) d0;obtain rfl:=h93;obtain ⟨v158_94,e94,h94⟩:=hI.get (i:=1) (.tail _ (.head _)) d1;obtain rfl:=h94 hS0;obtain ⟨v158_100,e100,h100⟩:=hI.get (i:=7) (gM 7 rfl) d7;obtain rfl:=h100 hS0;refine dV (al:=[.tmp 93,.tmp 94,.const (.bool true),.tmp 100]) [(93,_),(94,_),(100,_)] hU hI (gM 8 rfl) (by kernel_rfl) ⟨e93,e94,e100,trivial⟩ iw ((lU wm Z7 T g ⟨jQ u8 m.ix m.lt,[]⟩ m true m.ix _ (h10.from_ (ag.rfl_.next hM158)) (Nat.zero_le _)).mono ?_);rintro v9 w2 ⟨rfl,hS2⟩;exact ⟨⟨fun h0=>(by rw [dS] at h0;cases h0),fun _=>hS2⟩,rfl,⟨fun _ _ _ h=>h,fun _ _ _ _ h0=>(by rw [dS] at h0;cases h0),fun _ _ _ h=>h,fun _ _ _ h=>h,fun _ _ _ h=>h,fun _ _ _ h=>h,fun _ _ _ h=>h,fun _ _ _ _ h0=>(by rw [dS] at h0;cases h0),fun _ _ _ h=>h,trivial⟩⟩
  exact trivial
 case hend=>
  intro w159 hM;obtain hS9:=hM.2 rfl;rintro v159_93 rfl v159_94-v159_95 rfl v159_96 rfl v159_97 rfl v159_98 rfl v159_99 rfl v159_100-v159_101 rfl;refine ef (da (eg rfl ?_));rw [tO hp8 hfb hu8 (by cases fb <;> simp_all)];exact ⟨rfl,h.back hE3 (hS9.from_ ag.rfl_) hzi⟩
theorem uP (w0:World) (Z:Nat→Prop) (T g:Nat) (s:Rf) (m:Msg) (w:World) (h:aR w0 Z w T g ⟨s,[]⟩) (hF:RfF s) (hf:1≤m.f∧m.f≤s.nodes) (hk:m.k=5) (hix:m.ix≤1099511625728) (hdz:m.d.size≤1024) :
 Rt prog 103 [.pointer (some ⟨g,0,none⟩),.agg (bC m).toArray] w (fun v w'=>v=.tuple #[]∧aR w0 Z w' T g (nt s m)):=by
 have hFd:=z_ hF hf;obtain ⟨tC,htC⟩:∃ x,x=de (dR s m).b (dR s m).t (dR s m).es (dR s m).commit:=⟨_,rfl⟩;refine enter (n:=82) Tryz.func103 rfl rfl rfl (ao (ah (bZ (v:=.agg _) rfl ?_)));intro b3 w1 E3 hb3 hk3;obtain ⟨wm,hwm⟩:∃ x,x=w1:=⟨_,rfl⟩
 have h3a:=h.at_ (Z':=fun k=>Z k∨k=b3) E3 (fun k hk=>by
  rcases hk with e | e
  ·exact ⟨Nat.lt_of_lt_of_le (h.zw k e) E3.size,.inl e⟩
  ·subst e;exact ⟨hk3.lt,.inr (by omega)⟩)
 obtain ⟨Z7,hZ7⟩:∃ Z7,Z7=fun k=>Z k∨k=b3:=⟨_,rfl⟩
 have h3:aR wm Z7 w1 T g ⟨s,[]⟩:=by
  rw [hZ7,hwm];exact h3a
 have hzi:∀ k,Z k→Z7 k:=fun k hk=>by rw [hZ7];exact .inl hk
 have hzb:Z7 b3:=by rw [hZ7];exact .inr rfl
 have hE3:ag w wm:=by rw [hwm];exact E3
 have hm9:Blk wm b3 39 (bC m).toArray:=by rw [hwm];exact hk3
 have hm3:=h3.kept hzb hm9;refine an (ai (ao (ao (ah (mvp rfl (ab (av rfl) (ab (aa aD rfl) (ab (aa aB rfl) (ab (aa cW rfl) (ab (ar ak rfl (by exact (show _=some (Value.int .i64 s.role) from (h3.from_ ag.rfl_).rd (fun _=>rfl)))) ?_))))))))));refine ab (bf rfl rfl) (an (ai (AS rfl (fun Q2=>?_) (fun Q2=>?_))))
 ·refine aE (aG (eg rfl ?_));rw [tA (by omega)];exact ⟨rfl,h.back hE3 (h3.from_ ag.rfl_) hzi⟩
 refine aO (ai (e_ (G:=Unit) [11,12,13,14,15,16,17,18,19,20,21,22,23,24,25,26,27] (fun _=>[]) (fun _ w'=>aR wm Z7 w' T g ⟨cR s,[]⟩) ?_ ?_))
 ·refine ao (ah (mvp rfl (ab (av rfl) (ab (aa aD rfl) (ab (aa aB rfl) (ab (aa cW rfl) (ab (ar ak rfl (by exact (show _=some (Value.int .i64 s.role) from (h3.from_ ag.rfl_).rd (fun _=>rfl)))) ?_)))))));refine ab (bf rfl rfl) (an (ai (AS rfl (fun Q3=>?_) (fun Q3=>?_))))
  ·apply fA [(0,18,fun _ v _=>v=_),(1,19,fun _ v _=>v=_),(2,20,fun _ v _=>v=_),(3,21,fun _ v _=>v=_),(4,22,fun _ v _=>v=_),(5,23,fun _ v _=>v=_),(6,24,fun _ v _=>v=_),(7,25,fun _ v _=>v=_),(8,26,fun S v w9=>S 9=false→(eqp (.int .i64 s.term)) v w9),(9,27,fun _ v _=>v=_)] [9] (fun S w'=>(S 9=false→ag w1 w')∧(S 9=true→aR wm Z7 w' T g ⟨cJ s s.term,[]⟩)) (by kernel_rfl) (by kernel_rfl) rfl rfl ⟨fun _ _ _ _ _ _ _ h=>h,fun _ _ _ _ _ _ _ h=>h,fun _ _ _ _ _ _ _ h=>h,fun _ _ _ _ _ _ _ h=>h,fun _ _ _ _ _ _ _ h=>h,fun _ _ _ _ _ _ _ h=>h,fun _ _ _ _ _ _ _ h=>h,fun _ _ _ _ _ _ _ h=>h,fun S i v w1 w2 hq hF h h0=>(aj _) v w1 w2 hF (h (dY h0)),fun _ _ _ _ _ _ _ h=>h,trivial⟩ (fun S i w1 w2 hq hF h=>⟨fun h0=>(h.1 (dY h0)).next hF,fun h1=>(fun h=>h.from_ hF) (h.2 (jr (show 9≠i by rintro rfl;exact absurd hq (by decide)) h1))⟩) ⟨fun _=>ag.rfl_.d1,fun h=>by cases h⟩
   case hstep=>
    constructor
    ·rintro S L' w4 hU hmo hme hI hM hC hS ⟨-⟩;have hS0:S 9=false:=(af hC (j:=9) rfl (by kernel_rfl) (af hC (j:=2) rfl (by kernel_rfl) (af hC (j:=1) rfl (by kernel_rfl) hS)));have hM4:=hM.1 hS0;have e0:=hI.1 0 (dv rfl);exact az [(0,_)] hU hmo hme hI hM (.head _) rfl rfl (by kernel_rfl) ⟨e0,trivial⟩ (aF (v:=.pointer _) rfl) ag.rfl_ (rfl)
    constructor
    ·rintro S L' w5 hU hmo hme hI hM hC hS ⟨d0,-⟩;have hS0:S 9=false:=(af hC (j:=9) rfl (by kernel_rfl) (af hC (j:=2) rfl (by kernel_rfl) hS));have hM5:=hM.1 hS0;obtain ⟨v5_18,e18,h18⟩:=hI.get (i:=0) (.head _) d0;obtain rfl:=h18;exact az [(18,_)] hU hmo hme hI hM (.tail _ (.head _)) rfl rfl (by kernel_rfl) ⟨e18,trivial⟩ (av rfl) ag.rfl_ (rfl)
    constructor
    ·rintro S L' w6 hU hmo hme hI hM hC hS ⟨d1,-⟩;have hS0:S 9=false:=(af hC (j:=9) rfl (by kernel_rfl) hS);have hM6:=hM.1 hS0;obtain ⟨v6_19,e19,h19⟩:=hI.get (i:=1) (.tail _ (.head _)) d1;obtain rfl:=h19;exact az [(19,_)] hU hmo hme hI hM (gM 2 rfl) rfl rfl (by kernel_rfl) ⟨e19,trivial⟩ (aa aD rfl) ag.rfl_ (rfl)
    constructor
    ·rintro S L' w7 hU hmo hme hI hM hC hS ⟨-⟩;have hS0:S 9=false:=(af hC (j:=9) rfl (by kernel_rfl) (af hC (j:=8) rfl (by kernel_rfl) (af hC (j:=7) rfl (by kernel_rfl) (af hC (j:=6) rfl (by kernel_rfl) (af hC (j:=5) rfl (by kernel_rfl) (af hC (j:=4) rfl (by kernel_rfl) hS))))));have hM7:=hM.1 hS0;have e0:=hI.1 0 (dv rfl);exact az [(0,_)] hU hmo hme hI hM (gM 3 rfl) rfl rfl (by kernel_rfl) ⟨e0,trivial⟩ (aF (v:=.pointer _) rfl) ag.rfl_ (rfl)
    constructor
    ·rintro S L' w8 hU hmo hme hI hM hC hS ⟨d3,-⟩;have hS0:S 9=false:=(af hC (j:=9) rfl (by kernel_rfl) (af hC (j:=8) rfl (by kernel_rfl) (af hC (j:=7) rfl (by kernel_rfl) (af hC (j:=6) rfl (by kernel_rfl) (af hC (j:=5) rfl (by kernel_rfl) hS)))));have hM8:=hM.1 hS0;obtain ⟨v8_21,e21,h21⟩:=hI.get (i:=3) (gM 3 rfl) d3;obtain rfl:=h21;exact az [(21,_)] hU hmo hme hI hM (gM 4 rfl) rfl rfl (by kernel_rfl) ⟨e21,trivial⟩ (av rfl) ag.rfl_ (rfl)
    constructor
    ·rintro S L' w9 hU hmo hme hI hM hC hS ⟨d4,-⟩;have hS0:S 9=false:=(af hC (j:=9) rfl (by kernel_rfl) (af hC (j:=8) rfl (by kernel_rfl) (af hC (j:=7) rfl (by kernel_rfl) (af hC (j:=6) rfl (by kernel_rfl) hS))));have hM9:=hM.1 hS0;obtain ⟨v9_22,e22,h22⟩:=hI.get (i:=4) (gM 4 rfl) d4;obtain rfl:=h22;exact az [(22,_)] hU hmo hme hI hM (gM 5 rfl) rfl rfl (by kernel_rfl) ⟨e22,trivial⟩ (aa aD rfl) ag.rfl_ (rfl)
    constructor
    ·rintro S L' w10 hU hmo hme hI hM hC hS ⟨d5,-⟩;have hS0:S 9=false:=(af hC (j:=9) rfl (by kernel_rfl) (af hC (j:=8) rfl (by kernel_rfl) (af hC (j:=7) rfl (by kernel_rfl) hS)));have hM10:=hM.1 hS0;obtain ⟨v10_23,e23,h23⟩:=hI.get (i:=5) (gM 5 rfl) d5;obtain rfl:=h23;exact az [(23,_)] hU hmo hme hI hM (gM 6 rfl) rfl rfl (by kernel_rfl) ⟨e23,trivial⟩ (aa aB rfl) ag.rfl_ (rfl)
    constructor
    ·rintro S L' w11 hU hmo hme hI hM hC hS ⟨d6,-⟩;have hS0:S 9=false:=(af hC (j:=9) rfl (by kernel_rfl) (af hC (j:=8) rfl (by kernel_rfl) hS));have hM11:=hM.1 hS0;obtain ⟨v11_24,e24,h24⟩:=hI.get (i:=6) (gM 6 rfl) d6;obtain rfl:=h24;exact az [(24,_)] hU hmo hme hI hM (gM 7 rfl) rfl rfl (by kernel_rfl) ⟨e24,trivial⟩ (aa bH rfl) ag.rfl_ (rfl)
    constructor
    ·rintro S L' w12 hU hmo hme hI hM hC hS ⟨d7,-⟩;have hS0:S 9=false:=(af hC (j:=9) rfl (by kernel_rfl) hS);have hM12:=hM.1 hS0;obtain ⟨v12_25,e25,h25⟩:=hI.get (i:=7) (gM 7 rfl) d7;obtain rfl:=h25;exact az [(25,_)] hU hmo hme hI hM (gM 8 rfl) rfl rfl (by kernel_rfl) ⟨e25,trivial⟩ (ar ak rfl (by exact (show _=some (Value.int .i64 s.term) from (h3.from_ (ag.rfl_.next hM12)).rd (fun _=>rfl)))) ag.rfl_ (fun _=>rfl)
    constructor
    ·rintro S L' w13 hU hmo hme hI hM hC hS ⟨d2,d8,-⟩;have hS0:S 9=false:=hS;have hM13:=hM.1 hS0;obtain ⟨v13_20,e20,h20⟩:=hI.get (i:=2) (gM 2 rfl) d2;obtain rfl:=h20;obtain ⟨v13_26,e26,h26⟩:=hI.get (i:=8) (gM 8 rfl) d8;obtain rfl:=h26 hS0;refine dV (al:=[.tmp 20,.tmp 26]) [(20,_),(26,_)] hU hI (gM 9 rfl) (by kernel_rfl) ⟨e20,e26,trivial⟩ lP ((mQ wm Z7 T g ⟨s,[]⟩ _ (h3.from_ (ag.rfl_.next hM13)) s.term).mono ?_);rintro v9 w2 ⟨rfl,hS2⟩;exact ⟨⟨fun h0=>(by rw [dS] at h0;cases h0),fun _=>hS2⟩,rfl,⟨fun _ _ _ h=>h,fun _ _ _ h=>h,fun _ _ _ h=>h,fun _ _ _ h=>h,fun _ _ _ h=>h,fun _ _ _ h=>h,fun _ _ _ h=>h,fun _ _ _ h=>h,fun _ _ _ _ h0=>(by rw [dS] at h0;cases h0),fun _ _ _ h=>h,trivial⟩⟩
    exact trivial
   case hend=>
    intro w14 hM;obtain hS9:=hM.2 rfl;rintro v14_18 rfl v14_19 rfl v14_20 rfl v14_21 rfl v14_22 rfl v14_23 rfl v14_24 rfl v14_25 rfl v14_26-v14_27 rfl;refine ef ?_;refine bL (()) trivial (by (iterate 17 refine bd rfl ?_);exact br) ?_
    first
     |(rw [vI (by omega)];exact hS9.from_ ag.rfl_)
     |(rw [vH (by omega)];exact h3.from_ ag.rfl_)
  refine aO ?_;refine bL (()) trivial (by (iterate 7 refine bd rfl ?_);exact br) ?_
  first
   |(rw [vI (by omega)];exact hS9.from_ ag.rfl_)
   |(rw [vH (by omega)];exact h3.from_ ag.rfl_)
 rintro _ ρ15 w15 h5;refine ao (ah (mvp rfl (mvp rfl (ab (aa bY rfl) (ab (ar ak rfl (by exact (show _=some (Value.int .i64 m.f) from ((h5.kept hzb hm9).from_ ag.rfl_).rd 1 rfl))) ?_)))));refine ab (av rfl) (ab (aa aD rfl) (ab (aa aB rfl) (ab (aa d_ rfl) (dU (s':=({ cR s with leader:=m.f }:Rf)) bc rfl rfl rfl (h5.from_ ag.rfl_) (fun _=>⟨by decide,rfl⟩) ⟨rfl,rfl,rfl,rfl,rfl,rfl⟩ ?_))));intro w16 h6;refine ab (av rfl) (ab (aa aD rfl) (ab (aa aB rfl) (ab (aa dp rfl) (dU (s':=(dR s m)) bc rfl rfl rfl (h6.from_ ag.rfl_) (fun _=>⟨by decide,rfl⟩) ⟨rfl,rfl,rfl,rfl,rfl,rfl⟩ ?_))));intro w17 h7;obtain ⟨tgV,aV,OV,ocV,LV,hsV⟩:=h7.ex;have heV:=(bo.rd hsV.f).e;refine an (ai (ao (ao (ah (ab (aa cH rfl) (ab (ar ak rfl (by exact (show _=some (Value.int .i64 m.k) from ((h7.kept hzb hm9).from_ ag.rfl_).rd 0 rfl))) ?_))))));refine ab (cu (bf rfl rfl) (beq_eq_false_iff_ne.2 (by omega))) (an (ai (bg rfl (aO (ai (ao (ao ?_)))))));rcases pX m.ix (dR s m).commit m.lt tC with ho1 | ⟨ho1,ho2⟩ | ⟨ho1,ho2⟩
 ·have hold:m.ix≤(dR s m).commit∨m.lt<tC:=.inl ho1;apply bK 24 [(46,eqp _),(47,eqp (.int .i64 m.ix)),(48,eqp _),(49,eqp _),(50,eqp _),(51,eqp _),(52,eqp _),(53,eqp (.int .i64 (dR s m).commit)),(54,eqp _),(55,eqp _),(56,eqp _),(57,eqp _),(58,eqp _),(59,eqp _),(60,eqp _),(61,eqp _),(62,eqp _),(63,eqp _),(64,eqp _),(65,eqp _),(66,eqp _),(67,eqp _),(68,eqp _),(69,eqp _)] (by repeat first | exact ct | refine cr ?_ | refine bX ?_) (by kernel_rfl) (by kernel_rfl) ⟨aj _,aj _,aj _,aj _,aj _,aj _,aj _,aj _,aj _,aj _,aj _,aj _,aj _,aj _,aj _,aj _,aj _,aj _,aj _,aj _,aj _,aj _,aj _,aj _,trivial⟩
  case hop=>
   constructor
   ·rintro-w19 D19;exact au (aa bJ rfl) rfl
   constructor
   ·rintro-w20 D20;rintro _ rfl;exact au (ar ak rfl (by exact (show _=some (Value.int .i64 m.ix) from ((h7.kept hzb hm9).from_ (ag.rfl_.next D20)).rd 4 rfl))) rfl
   constructor
   ·rintro-w21 D21;exact au (aF (v:=.pointer _) rfl) rfl
   constructor
   ·rintro-w22 D22;rintro _ rfl;exact au (av rfl) rfl
   constructor
   ·rintro-w23 D23;rintro _ rfl;exact au (aa aD rfl) rfl
   constructor
   ·rintro-w24 D24;rintro _ rfl;exact au (aa aB rfl) rfl
   constructor
   ·rintro-w25 D25;rintro _ rfl;exact au (aa bW rfl) rfl
   constructor
   ·rintro-w26 D26;rintro _ rfl;exact au (ar ak rfl (by exact (show _=some (Value.int .i64 (dR s m).commit) from (h7.from_ (ag.rfl_.next D26)).rd (fun _=>rfl)))) rfl
   constructor
   ·rintro-w27 D27;rintro v27_47 rfl v27_53 rfl;exact au (c6 (eT rfl rfl) (decide_eq_true ho1)) rfl
   constructor
   ·rintro-w28 D28;rintro _ rfl;exact au (aF (v:=.bool _) rfl) rfl
   constructor
   ·rintro-w29 D29;rintro _ rfl;exact ck rfl rfl rfl
   constructor
   ·rintro-w30 D30;rintro _ rfl _ rfl;exact ck rfl rfl rfl
   constructor
   ·rintro-w31 D31;rintro _ rfl;exact ck rfl rfl rfl
   constructor
   ·rintro-w32 D32;rintro _ rfl _ rfl;exact ck rfl rfl rfl
   constructor
   ·rintro-w33 D33;rintro _ rfl _ rfl;exact ck rfl rfl rfl
   constructor
   ·rintro-w34 D34;rintro _ rfl;exact ck rfl rfl rfl
   constructor
   ·rintro-w35 D35;rintro _ rfl _ rfl;exact ck rfl rfl rfl
   constructor
   ·rintro-w36 D36;rintro _ rfl _ rfl;exact ck rfl rfl rfl
   constructor
   ·rintro-w37 D37;rintro _ rfl _ rfl;exact ck rfl rfl rfl
   constructor
   ·rintro-w38 D38;rintro _ rfl _ rfl;exact ck rfl rfl rfl
   constructor
   ·rintro-w39 D39;rintro _ rfl _ rfl;exact ck rfl rfl rfl
   constructor
   ·rintro-w40 D40;rintro _ rfl _ rfl _ rfl;exact ck rfl rfl rfl
   constructor
   ·rintro-w41 D41;rintro _ rfl _ rfl _ rfl;exact ck rfl rfl rfl
   constructor
   ·rintro-w42 D42;rintro _ rfl _ rfl;exact au (aM (v:=.bool _) rfl rfl) rfl
   exact trivial
  case hend=>
   intro w43 D43;rintro _ rfl v47 rfl _ rfl _ rfl _ rfl _ rfl _ rfl v53 rfl _ rfl _ rfl _ rfl _ rfl _ rfl _ rfl _ rfl _ rfl _ rfl _ rfl _ rfl _ rfl _ rfl _ rfl _ rfl _ rfl;show St ..;refine an (ai (aZ rfl (ao ?_)));apply fA [(0,70,fun _ v _=>v=_),(1,71,fun S v w9=>S 8=false→(eqp (.agg (bC m).toArray)) v w9),(2,72,fun _ v _=>v=_),(3,73,fun _ v _=>v=_),(4,74,fun _ v _=>v=_),(5,75,fun _ v _=>v=_),(6,76,fun _ v _=>v=_),(7,77,fun S v w9=>S 8=false→(eqp (.int .i64 (dR s m).commit)) v w9),(8,78,fun _ v _=>v=_)] [8] (fun S w'=>(S 8=false→ag w43 w')∧(S 8=true→aR wm Z7 w' T g (iI ⟨dR s m,[]⟩ m true (dR s m).commit))) (by kernel_rfl) (by kernel_rfl) rfl rfl ⟨fun _ _ _ _ _ _ _ h=>h,fun S i v w1 w2 hq hF h h0=>(aj _) v w1 w2 hF (h (dY h0)),fun _ _ _ _ _ _ _ h=>h,fun _ _ _ _ _ _ _ h=>h,fun _ _ _ _ _ _ _ h=>h,fun _ _ _ _ _ _ _ h=>h,fun _ _ _ _ _ _ _ h=>h,fun S i v w1 w2 hq hF h h0=>(aj _) v w1 w2 hF (h (dY h0)),fun _ _ _ _ _ _ _ h=>h,trivial⟩ (fun S i w1 w2 hq hF h=>⟨fun h0=>(h.1 (dY h0)).next hF,fun h1=>(fun h=>h.from_ hF) (h.2 (jr (show 8≠i by rintro rfl;exact absurd hq (by decide)) h1))⟩) ⟨fun _=>ag.rfl_.d1,fun h=>by cases h⟩
   case hstep=>
    constructor
    ·rintro S L' w44 hU hmo hme hI hM hC hS ⟨-⟩;have hS0:S 8=false:=(af hC (j:=8) rfl (by kernel_rfl) hS);have hM44:=hM.1 hS0;have e0:=hI.1 0 (dv rfl);exact az [(0,_)] hU hmo hme hI hM (.head _) rfl rfl (by kernel_rfl) ⟨e0,trivial⟩ (aF (v:=.pointer _) rfl) ag.rfl_ (rfl)
    constructor
    ·rintro S L' w45 hU hmo hme hI hM hC hS ⟨-⟩;have hS0:S 8=false:=(af hC (j:=8) rfl (by kernel_rfl) hS);have hM45:=hM.1 hS0;have e3:=hI.1 3 (dv rfl);exact az [(3,_)] hU hmo hme hI hM (.tail _ (.head _)) rfl rfl (by kernel_rfl) ⟨e3,trivial⟩ ((aH (cs:=bC m) bj aY rfl (((h7.kept hzb hm9).from_ ((ag.rfl_.next D43).next hM45)).whole))) (ag.rfl_) (fun _=>rfl)
    constructor
    ·rintro S L' w46 hU hmo hme hI hM hC hS ⟨-⟩;have hS0:S 8=false:=(af hC (j:=8) rfl (by kernel_rfl) (af hC (j:=7) rfl (by kernel_rfl) (af hC (j:=6) rfl (by kernel_rfl) (af hC (j:=5) rfl (by kernel_rfl) (af hC (j:=4) rfl (by kernel_rfl) (af hC (j:=3) rfl (by kernel_rfl) hS))))));have hM46:=hM.1 hS0;have e0:=hI.1 0 (dv rfl);exact az [(0,_)] hU hmo hme hI hM (gM 2 rfl) rfl rfl (by kernel_rfl) ⟨e0,trivial⟩ (aF (v:=.pointer _) rfl) ag.rfl_ (rfl)
    constructor
    ·rintro S L' w47 hU hmo hme hI hM hC hS ⟨d2,-⟩;have hS0:S 8=false:=(af hC (j:=8) rfl (by kernel_rfl) (af hC (j:=7) rfl (by kernel_rfl) (af hC (j:=6) rfl (by kernel_rfl) (af hC (j:=5) rfl (by kernel_rfl) (af hC (j:=4) rfl (by kernel_rfl) hS)))));have hM47:=hM.1 hS0;obtain ⟨v47_72,e72,h72⟩:=hI.get (i:=2) (gM 2 rfl) d2;obtain rfl:=h72;exact az [(72,_)] hU hmo hme hI hM (gM 3 rfl) rfl rfl (by kernel_rfl) ⟨e72,trivial⟩ (av rfl) ag.rfl_ (rfl)
    constructor
    ·rintro S L' w48 hU hmo hme hI hM hC hS ⟨d3,-⟩;have hS0:S 8=false:=(af hC (j:=8) rfl (by kernel_rfl) (af hC (j:=7) rfl (by kernel_rfl) (af hC (j:=6) rfl (by kernel_rfl) (af hC (j:=5) rfl (by kernel_rfl) hS))));have hM48:=hM.1 hS0;obtain ⟨v48_73,e73,h73⟩:=hI.get (i:=3) (gM 3 rfl) d3;obtain rfl:=h73;exact az [(73,_)] hU hmo hme hI hM (gM 4 rfl) rfl rfl (by kernel_rfl) ⟨e73,trivial⟩ (aa aD rfl) ag.rfl_ (rfl)
    constructor
    ·rintro S L' w49 hU hmo hme hI hM hC hS ⟨d4,-⟩;have hS0:S 8=false:=(af hC (j:=8) rfl (by kernel_rfl) (af hC (j:=7) rfl (by kernel_rfl) (af hC (j:=6) rfl (by kernel_rfl) hS)));have hM49:=hM.1 hS0;obtain ⟨v49_74,e74,h74⟩:=hI.get (i:=4) (gM 4 rfl) d4;obtain rfl:=h74;exact az [(74,_)] hU hmo hme hI hM (gM 5 rfl) rfl rfl (by kernel_rfl) ⟨e74,trivial⟩ (aa aB rfl) ag.rfl_ (rfl)
    constructor
    ·rintro S L' w50 hU hmo hme hI hM hC hS ⟨d5,-⟩;have hS0:S 8=false:=(af hC (j:=8) rfl (by kernel_rfl) (af hC (j:=7) rfl (by kernel_rfl) hS));have hM50:=hM.1 hS0;obtain ⟨v50_75,e75,h75⟩:=hI.get (i:=5) (gM 5 rfl) d5;obtain rfl:=h75;exact az [(75,_)] hU hmo hme hI hM (gM 6 rfl) rfl rfl (by kernel_rfl) ⟨e75,trivial⟩ (aa bW rfl) ag.rfl_ (rfl)
    constructor
    ·rintro S L' w51 hU hmo hme hI hM hC hS ⟨d6,-⟩;have hS0:S 8=false:=(af hC (j:=8) rfl (by kernel_rfl) hS);have hM51:=hM.1 hS0;obtain ⟨v51_76,e76,h76⟩:=hI.get (i:=6) (gM 6 rfl) d6;obtain rfl:=h76;exact az [(76,_)] hU hmo hme hI hM (gM 7 rfl) rfl rfl (by kernel_rfl) ⟨e76,trivial⟩ (ar ak rfl (by exact (show _=some (Value.int .i64 (dR s m).commit) from (h7.from_ ((ag.rfl_.next D43).next hM51)).rd (fun _=>rfl)))) ag.rfl_ (fun _=>rfl)
    constructor
    ·rintro S L' w52 hU hmo hme hI hM hC hS ⟨d0,d1,d7,-⟩;have hS0:S 8=false:=hS;have hM52:=hM.1 hS0;obtain ⟨v52_70,e70,h70⟩:=hI.get (i:=0) (.head _) d0;obtain rfl:=h70;obtain ⟨v52_71,e71,h71⟩:=hI.get (i:=1) (.tail _ (.head _)) d1;obtain rfl:=h71 hS0;obtain ⟨v52_77,e77,h77⟩:=hI.get (i:=7) (gM 7 rfl) d7;obtain rfl:=h77 hS0;refine dV (al:=[.tmp 70,.tmp 71,.const (.bool true),.tmp 77]) [(70,_),(71,_),(77,_)] hU hI (gM 8 rfl) (by kernel_rfl) ⟨e70,e71,e77,trivial⟩ iw ((lU wm Z7 T g ⟨dR s m,[]⟩ m true (dR s m).commit _ (h7.from_ ((ag.rfl_.next D43).next hM52)) (Nat.zero_le _)).mono ?_);rintro v9 w2 ⟨rfl,hS2⟩;exact ⟨⟨fun h0=>(by rw [dS] at h0;cases h0),fun _=>hS2⟩,rfl,⟨fun _ _ _ h=>h,fun _ _ _ _ h0=>(by rw [dS] at h0;cases h0),fun _ _ _ h=>h,fun _ _ _ h=>h,fun _ _ _ h=>h,fun _ _ _ h=>h,fun _ _ _ h=>h,fun _ _ _ _ h0=>(by rw [dS] at h0;cases h0),fun _ _ _ h=>h,trivial⟩⟩
    exact trivial
   case hend=>
    intro w53 hM;obtain hS9:=hM.2 rfl;rintro v53_70 rfl v53_71-v53_72 rfl v53_73 rfl v53_74 rfl v53_75 rfl v53_76 rfl v53_77-v53_78 rfl;refine ef (ai (aE (aG (eg rfl ?_))));rw [htC] at hold;rw [oS (by omega) hk,lZ hold];exact ⟨rfl,h.back hE3 (hS9.from_ ag.rfl_) hzi⟩
 ·have hold:m.ix≤(dR s m).commit∨m.lt<tC:=.inr ho2;apply bK 24 [(46,eqp _),(47,eqp (.int .i64 m.ix)),(48,eqp _),(49,eqp _),(50,eqp _),(51,eqp _),(52,eqp _),(53,eqp (.int .i64 (dR s m).commit)),(54,eqp _),(55,eqp _),(56,eqp _),(57,eqp (.int .i64 m.lt)),(58,eqp _),(59,eqp _),(60,eqp _),(61,eqp _),(62,eqp _),(63,eqp _),(64,eqp _),(65,eqp _),(66,eqp (.int .i64 (dR s m).commit)),(67,eqp (.int .i64 tC)),(68,eqp _),(69,eqp _)] (by repeat first | exact ct | refine cr ?_ | refine bX ?_) (by kernel_rfl) (by kernel_rfl) ⟨aj _,aj _,aj _,aj _,aj _,aj _,aj _,aj _,aj _,aj _,aj _,aj _,aj _,aj _,aj _,aj _,aj _,aj _,aj _,aj _,aj _,aj _,aj _,aj _,trivial⟩
  case hop=>
   constructor
   ·rintro-w55 D55;exact au (aa bJ rfl) rfl
   constructor
   ·rintro-w56 D56;rintro _ rfl;exact au (ar ak rfl (by exact (show _=some (Value.int .i64 m.ix) from ((h7.kept hzb hm9).from_ (ag.rfl_.next D56)).rd 4 rfl))) rfl
   constructor
   ·rintro-w57 D57;exact au (aF (v:=.pointer _) rfl) rfl
   constructor
   ·rintro-w58 D58;rintro _ rfl;exact au (av rfl) rfl
   constructor
   ·rintro-w59 D59;rintro _ rfl;exact au (aa aD rfl) rfl
   constructor
   ·rintro-w60 D60;rintro _ rfl;exact au (aa aB rfl) rfl
   constructor
   ·rintro-w61 D61;rintro _ rfl;exact au (aa bW rfl) rfl
   constructor
   ·rintro-w62 D62;rintro _ rfl;exact au (ar ak rfl (by exact (show _=some (Value.int .i64 (dR s m).commit) from (h7.from_ (ag.rfl_.next D62)).rd (fun _=>rfl)))) rfl
   constructor
   ·rintro-w63 D63;rintro v63_47 rfl v63_53 rfl;exact au (cu (eT rfl rfl) (decide_eq_false ho1)) rfl
   constructor
   ·rintro-w64 D64;rintro _ rfl;exact au (aF (v:=.bool _) rfl) rfl
   constructor
   ·rintro-w65 D65;rintro _ rfl;exact aL rfl (aa cG rfl) rfl
   constructor
   ·rintro-w66 D66;rintro _ rfl _ rfl;exact aL rfl (ar ak rfl (by exact (show _=some (Value.int .i64 m.lt) from ((h7.kept hzb hm9).from_ (ag.rfl_.next D66)).rd 5 rfl))) rfl
   constructor
   ·rintro-w67 D67;rintro _ rfl;exact aL rfl (aF (v:=.pointer _) rfl) rfl
   constructor
   ·rintro-w68 D68;rintro _ rfl _ rfl;exact aL rfl (av rfl) rfl
   constructor
   ·rintro-w69 D69;rintro _ rfl _ rfl;exact aL rfl (aa aD rfl) rfl
   constructor
   ·rintro-w70 D70;rintro _ rfl;exact aL rfl (aF (v:=.pointer _) rfl) rfl
   constructor
   ·rintro-w71 D71;rintro _ rfl _ rfl;exact aL rfl (av rfl) rfl
   constructor
   ·rintro-w72 D72;rintro _ rfl _ rfl;exact aL rfl (aa aD rfl) rfl
   constructor
   ·rintro-w73 D73;rintro _ rfl _ rfl;exact aL rfl (aa aB rfl) rfl
   constructor
   ·rintro-w74 D74;rintro _ rfl _ rfl;exact aL rfl (aa bW rfl) rfl
   constructor
   ·rintro-w75 D75;rintro _ rfl _ rfl;exact aL rfl (ar ak rfl (by exact (show _=some (Value.int .i64 (dR s m).commit) from (h7.from_ (ag.rfl_.next D75)).rd (fun _=>rfl)))) rfl
   constructor
   ·rintro-w76 D76;rintro _ rfl _ rfl v76_66 rfl;refine oL rfl ki ((pE T g (dR s m) aV _ _ (hsV.b.from_ (ag.rfl_.next D76)) (heV.from_ (ag.rfl_.next D76)) hFd.lg (dR s m).commit hFd.co htC).mono ?_);rintro v w9 ⟨rfl,hF9⟩;exact ⟨hF9,rfl⟩
   constructor
   ·rintro-w77 D77;rintro _ rfl v77_57 rfl v77_67 rfl;exact aL rfl (c6 (ch rfl rfl) (decide_eq_true ho2)) rfl
   constructor
   ·rintro-w78 D78;rintro _ rfl _ rfl;exact au (ay (v:=.bool _) rfl rfl) rfl
   exact trivial
  case hend=>
   intro w79 D79;rintro _ rfl v47 rfl _ rfl _ rfl _ rfl _ rfl _ rfl v53 rfl _ rfl _ rfl _ rfl v57 rfl _ rfl _ rfl _ rfl _ rfl _ rfl _ rfl _ rfl _ rfl v66 rfl v67 rfl _ rfl _ rfl;show St ..;refine an (ai (aZ rfl (ao ?_)));apply fA [(0,70,fun _ v _=>v=_),(1,71,fun S v w9=>S 8=false→(eqp (.agg (bC m).toArray)) v w9),(2,72,fun _ v _=>v=_),(3,73,fun _ v _=>v=_),(4,74,fun _ v _=>v=_),(5,75,fun _ v _=>v=_),(6,76,fun _ v _=>v=_),(7,77,fun S v w9=>S 8=false→(eqp (.int .i64 (dR s m).commit)) v w9),(8,78,fun _ v _=>v=_)] [8] (fun S w'=>(S 8=false→ag w79 w')∧(S 8=true→aR wm Z7 w' T g (iI ⟨dR s m,[]⟩ m true (dR s m).commit))) (by kernel_rfl) (by kernel_rfl) rfl rfl ⟨fun _ _ _ _ _ _ _ h=>h,fun S i v w1 w2 hq hF h h0=>(aj _) v w1 w2 hF (h (dY h0)),fun _ _ _ _ _ _ _ h=>h,fun _ _ _ _ _ _ _ h=>h,fun _ _ _ _ _ _ _ h=>h,fun _ _ _ _ _ _ _ h=>h,fun _ _ _ _ _ _ _ h=>h,fun S i v w1 w2 hq hF h h0=>(aj _) v w1 w2 hF (h (dY h0)),fun _ _ _ _ _ _ _ h=>h,trivial⟩ (fun S i w1 w2 hq hF h=>⟨fun h0=>(h.1 (dY h0)).next hF,fun h1=>(fun h=>h.from_ hF) (h.2 (jr (show 8≠i by rintro rfl;exact absurd hq (by decide)) h1))⟩) ⟨fun _=>ag.rfl_.d1,fun h=>by cases h⟩
   case hstep=>
    constructor
    ·rintro S L' w80 hU hmo hme hI hM hC hS ⟨-⟩;have hS0:S 8=false:=(af hC (j:=8) rfl (by kernel_rfl) hS);have hM80:=hM.1 hS0;have e0:=hI.1 0 (dv rfl);exact az [(0,_)] hU hmo hme hI hM (.head _) rfl rfl (by kernel_rfl) ⟨e0,trivial⟩ (aF (v:=.pointer _) rfl) ag.rfl_ (rfl)
    constructor
    ·rintro S L' w81 hU hmo hme hI hM hC hS ⟨-⟩;have hS0:S 8=false:=(af hC (j:=8) rfl (by kernel_rfl) hS);have hM81:=hM.1 hS0;have e3:=hI.1 3 (dv rfl);exact az [(3,_)] hU hmo hme hI hM (.tail _ (.head _)) rfl rfl (by kernel_rfl) ⟨e3,trivial⟩ ((aH (cs:=bC m) bj aY rfl (((h7.kept hzb hm9).from_ ((ag.rfl_.next D79).next hM81)).whole))) (ag.rfl_) (fun _=>rfl)
    constructor
    ·rintro S L' w82 hU hmo hme hI hM hC hS ⟨-⟩;have hS0:S 8=false:=(af hC (j:=8) rfl (by kernel_rfl) (af hC (j:=7) rfl (by kernel_rfl) (af hC (j:=6) rfl (by kernel_rfl) (af hC (j:=5) rfl (by kernel_rfl) (af hC (j:=4) rfl (by kernel_rfl) (af hC (j:=3) rfl (by kernel_rfl) hS))))));have hM82:=hM.1 hS0;have e0:=hI.1 0 (dv rfl);exact az [(0,_)] hU hmo hme hI hM (gM 2 rfl) rfl rfl (by kernel_rfl) ⟨e0,trivial⟩ (aF (v:=.pointer _) rfl) ag.rfl_ (rfl)
    constructor
    ·rintro S L' w83 hU hmo hme hI hM hC hS ⟨d2,-⟩;have hS0:S 8=false:=(af hC (j:=8) rfl (by kernel_rfl) (af hC (j:=7) rfl (by kernel_rfl) (af hC (j:=6) rfl (by kernel_rfl) (af hC (j:=5) rfl (by kernel_rfl) (af hC (j:=4) rfl (by kernel_rfl) hS)))));have hM83:=hM.1 hS0;obtain ⟨v83_72,e72,h72⟩:=hI.get (i:=2) (gM 2 rfl) d2;obtain rfl:=h72;exact az [(72,_)] hU hmo hme hI hM (gM 3 rfl) rfl rfl (by kernel_rfl) ⟨e72,trivial⟩ (av rfl) ag.rfl_ (rfl)
    constructor
    ·rintro S L' w84 hU hmo hme hI hM hC hS ⟨d3,-⟩;have hS0:S 8=false:=(af hC (j:=8) rfl (by kernel_rfl) (af hC (j:=7) rfl (by kernel_rfl) (af hC (j:=6) rfl (by kernel_rfl) (af hC (j:=5) rfl (by kernel_rfl) hS))));have hM84:=hM.1 hS0;obtain ⟨v84_73,e73,h73⟩:=hI.get (i:=3) (gM 3 rfl) d3;obtain rfl:=h73;exact az [(73,_)] hU hmo hme hI hM (gM 4 rfl) rfl rfl (by kernel_rfl) ⟨e73,trivial⟩ (aa aD rfl) ag.rfl_ (rfl)
    constructor
    ·rintro S L' w85 hU hmo hme hI hM hC hS ⟨d4,-⟩;have hS0:S 8=false:=(af hC (j:=8) rfl (by kernel_rfl) (af hC (j:=7) rfl (by kernel_rfl) (af hC (j:=6) rfl (by kernel_rfl) hS)));have hM85:=hM.1 hS0;obtain ⟨v85_74,e74,h74⟩:=hI.get (i:=4) (gM 4 rfl) d4;obtain rfl:=h74;exact az [(74,_)] hU hmo hme hI hM (gM 5 rfl) rfl rfl (by kernel_rfl) ⟨e74,trivial⟩ (aa aB rfl) ag.rfl_ (rfl)
    constructor
    ·rintro S L' w86 hU hmo hme hI hM hC hS ⟨d5,-⟩;have hS0:S 8=false:=(af hC (j:=8) rfl (by kernel_rfl) (af hC (j:=7) rfl (by kernel_rfl) hS));have hM86:=hM.1 hS0;obtain ⟨v86_75,e75,h75⟩:=hI.get (i:=5) (gM 5 rfl) d5;obtain rfl:=h75;exact az [(75,_)] hU hmo hme hI hM (gM 6 rfl) rfl rfl (by kernel_rfl) ⟨e75,trivial⟩ (aa bW rfl) ag.rfl_ (rfl)
    constructor
    ·rintro S L' w87 hU hmo hme hI hM hC hS ⟨d6,-⟩;have hS0:S 8=false:=(af hC (j:=8) rfl (by kernel_rfl) hS);have hM87:=hM.1 hS0;obtain ⟨v87_76,e76,h76⟩:=hI.get (i:=6) (gM 6 rfl) d6;obtain rfl:=h76;exact az [(76,_)] hU hmo hme hI hM (gM 7 rfl) rfl rfl (by kernel_rfl) ⟨e76,trivial⟩ (ar ak rfl (by exact (show _=some (Value.int .i64 (dR s m).commit) from (h7.from_ ((ag.rfl_.next D79).next hM87)).rd (fun _=>rfl)))) ag.rfl_ (fun _=>rfl)
    constructor
    ·rintro S L' w88 hU hmo hme hI hM hC hS ⟨d0,d1,d7,-⟩;have hS0:S 8=false:=hS;have hM88:=hM.1 hS0;obtain ⟨v88_70,e70,h70⟩:=hI.get (i:=0) (.head _) d0;obtain rfl:=h70;obtain ⟨v88_71,e71,h71⟩:=hI.get (i:=1) (.tail _ (.head _)) d1;obtain rfl:=h71 hS0;obtain ⟨v88_77,e77,h77⟩:=hI.get (i:=7) (gM 7 rfl) d7;obtain rfl:=h77 hS0;refine dV (al:=[.tmp 70,.tmp 71,.const (.bool true),.tmp 77]) [(70,_),(71,_),(77,_)] hU hI (gM 8 rfl) (by kernel_rfl) ⟨e70,e71,e77,trivial⟩ iw ((lU wm Z7 T g ⟨dR s m,[]⟩ m true (dR s m).commit _ (h7.from_ ((ag.rfl_.next D79).next hM88)) (Nat.zero_le _)).mono ?_);rintro v9 w2 ⟨rfl,hS2⟩;exact ⟨⟨fun h0=>(by rw [dS] at h0;cases h0),fun _=>hS2⟩,rfl,⟨fun _ _ _ h=>h,fun _ _ _ _ h0=>(by rw [dS] at h0;cases h0),fun _ _ _ h=>h,fun _ _ _ h=>h,fun _ _ _ h=>h,fun _ _ _ h=>h,fun _ _ _ h=>h,fun _ _ _ _ h0=>(by rw [dS] at h0;cases h0),fun _ _ _ h=>h,trivial⟩⟩
    exact trivial
   case hend=>
    intro w89 hM;obtain hS9:=hM.2 rfl;rintro v89_70 rfl v89_71-v89_72 rfl v89_73 rfl v89_74 rfl v89_75 rfl v89_76 rfl v89_77-v89_78 rfl;refine ef (ai (aE (aG (eg rfl ?_))));rw [htC] at hold;rw [oS (by omega) hk,lZ hold];exact ⟨rfl,h.back hE3 (hS9.from_ ag.rfl_) hzi⟩
 have hnew:¬ (m.ix≤(dR s m).commit∨m.lt<tC):=fun e=>e.elim ho1 ho2
 apply bK 24 [(46,eqp _),(47,eqp (.int .i64 m.ix)),(48,eqp _),(49,eqp _),(50,eqp _),(51,eqp _),(52,eqp _),(53,eqp (.int .i64 (dR s m).commit)),(54,eqp _),(55,eqp _),(56,eqp _),(57,eqp (.int .i64 m.lt)),(58,eqp _),(59,eqp _),(60,eqp _),(61,eqp _),(62,eqp _),(63,eqp _),(64,eqp _),(65,eqp _),(66,eqp (.int .i64 (dR s m).commit)),(67,eqp (.int .i64 tC)),(68,eqp _),(69,eqp _)] (by repeat first | exact ct | refine cr ?_ | refine bX ?_) (by kernel_rfl) (by kernel_rfl) ⟨aj _,aj _,aj _,aj _,aj _,aj _,aj _,aj _,aj _,aj _,aj _,aj _,aj _,aj _,aj _,aj _,aj _,aj _,aj _,aj _,aj _,aj _,aj _,aj _,trivial⟩
 case hop=>
  constructor
  ·rintro-w91 D91;exact au (aa bJ rfl) rfl
  constructor
  ·rintro-w92 D92;rintro _ rfl;exact au (ar ak rfl (by exact (show _=some (Value.int .i64 m.ix) from ((h7.kept hzb hm9).from_ (ag.rfl_.next D92)).rd 4 rfl))) rfl
  constructor
  ·rintro-w93 D93;exact au (aF (v:=.pointer _) rfl) rfl
  constructor
  ·rintro-w94 D94;rintro _ rfl;exact au (av rfl) rfl
  constructor
  ·rintro-w95 D95;rintro _ rfl;exact au (aa aD rfl) rfl
  constructor
  ·rintro-w96 D96;rintro _ rfl;exact au (aa aB rfl) rfl
  constructor
  ·rintro-w97 D97;rintro _ rfl;exact au (aa bW rfl) rfl
  constructor
  ·rintro-w98 D98;rintro _ rfl;exact au (ar ak rfl (by exact (show _=some (Value.int .i64 (dR s m).commit) from (h7.from_ (ag.rfl_.next D98)).rd (fun _=>rfl)))) rfl
  constructor
  ·rintro-w99 D99;rintro v99_47 rfl v99_53 rfl;exact au (cu (eT rfl rfl) (decide_eq_false ho1)) rfl
  constructor
  ·rintro-w100 D100;rintro _ rfl;exact au (aF (v:=.bool _) rfl) rfl
  constructor
  ·rintro-w101 D101;rintro _ rfl;exact aL rfl (aa cG rfl) rfl
  constructor
  ·rintro-w102 D102;rintro _ rfl _ rfl;exact aL rfl (ar ak rfl (by exact (show _=some (Value.int .i64 m.lt) from ((h7.kept hzb hm9).from_ (ag.rfl_.next D102)).rd 5 rfl))) rfl
  constructor
  ·rintro-w103 D103;rintro _ rfl;exact aL rfl (aF (v:=.pointer _) rfl) rfl
  constructor
  ·rintro-w104 D104;rintro _ rfl _ rfl;exact aL rfl (av rfl) rfl
  constructor
  ·rintro-w105 D105;rintro _ rfl _ rfl;exact aL rfl (aa aD rfl) rfl
  constructor
  ·rintro-w106 D106;rintro _ rfl;exact aL rfl (aF (v:=.pointer _) rfl) rfl
  constructor
  ·rintro-w107 D107;rintro _ rfl _ rfl;exact aL rfl (av rfl) rfl
  constructor
  ·rintro-w108 D108;rintro _ rfl _ rfl;exact aL rfl (aa aD rfl) rfl
  constructor
  ·rintro-w109 D109;rintro _ rfl _ rfl;exact aL rfl (aa aB rfl) rfl
  constructor
  ·rintro-w110 D110;rintro _ rfl _ rfl;exact aL rfl (aa bW rfl) rfl
  constructor
  ·rintro-w111 D111;rintro _ rfl _ rfl;exact aL rfl (ar ak rfl (by exact (show _=some (Value.int .i64 (dR s m).commit) from (h7.from_ (ag.rfl_.next D111)).rd (fun _=>rfl)))) rfl
  constructor
  ·rintro-w112 D112;rintro _ rfl _ rfl v112_66 rfl;refine oL rfl ki ((pE T g (dR s m) aV _ _ (hsV.b.from_ (ag.rfl_.next D112)) (heV.from_ (ag.rfl_.next D112)) hFd.lg (dR s m).commit hFd.co htC).mono ?_);rintro v w9 ⟨rfl,hF9⟩;exact ⟨hF9,rfl⟩
  constructor
  ·rintro-w113 D113;rintro _ rfl v113_57 rfl v113_67 rfl;exact aL rfl (cu (ch rfl rfl) (decide_eq_false ho2)) rfl
  constructor
  ·rintro-w114 D114;rintro _ rfl _ rfl;exact au (ay (v:=.bool _) rfl rfl) rfl
  exact trivial
 case hend=>
  intro w115 D115;rintro _ rfl v47 rfl _ rfl _ rfl _ rfl _ rfl _ rfl v53 rfl _ rfl _ rfl _ rfl v57 rfl _ rfl _ rfl _ rfl _ rfl _ rfl _ rfl _ rfl _ rfl v66 rfl v67 rfl _ rfl _ rfl;show St ..;refine an (ai (bg rfl (aO (ai (ah (mvp rfl (ab (aH (cs:=bC m) bj aY rfl (((h7.kept hzb hm9).from_ (ag.rfl_.next D115)).whole)) (aC sM (sh wm Z7 T g (dR s m) m _ (h7.from_ (ag.rfl_.next D115)) hFd.lg rfl (by have:=hFd.co;omega) hFd.pa hdz) ?_))))))));rintro v81 w116 ⟨rfl,h8⟩;refine an (da (eg rfl ?_));rw [htC] at hnew;rw [oS (by omega) hk,jL hnew];exact ⟨rfl,h.back hE3 (h8.from_ ag.rfl_) hzi⟩
theorem fO:aQ prog 71=true:=by kernel_rfl
theorem dt:∀ (a0:Int) (a1:Int) (a2:Int),prog.built 39 [(0,.int .i64 4),(2,.int .i64 a0),(8,.bool true),(4,.int .i64 a1),(7,.int .i64 a2)]=some #[.int .i64 4,.int .i64 0,.int .i64 a0,.int .i64 0,.int .i64 a1,.int .i64 0,.int .i64 0,.int .i64 a2,.bool true,.slice none 0 0,.int .i64 0,.string ⟨#[]⟩,.bool false]:=by intros;kernel_rfl
theorem fH:∀ (a0:Int) (a1:Int) (a2:Int) (a3:Int),prog.built 39 [(0,.int .i64 6),(2,.int .i64 a0),(4,.int .i64 a1),(10,.int .i64 a3),(7,.int .i64 a2)]=some #[.int .i64 6,.int .i64 0,.int .i64 a0,.int .i64 0,.int .i64 a1,.int .i64 0,.int .i64 0,.int .i64 a2,.bool false,.slice none 0 0,.int .i64 a3,.string ⟨#[]⟩,.bool false]:=by intros;kernel_rfl
theorem ud:aQ prog 80=true:=by kernel_rfl
theorem kV:∀ (a0:Int) (a1:Int),prog.built 24 [(0,.int .i64 a0),(1,.int .i64 a1)]=some #[.int .i64 a0,.int .i64 a1,.slice none 0 0]:=by intros;kernel_rfl
theorem pQ (s:Rf) (i:Int) (E:Option Addr) (c:Nat) (w:World) (h:cC w (.slice E s.es.length c) s.es) (hm:cj s.b s.t s.es=true) (hi:s.b≤i∧i≤bm s) {t:Int} (ht:t=de s.b s.t s.es i):Rt prog 82 [.agg #[.int .i64 s.b,.int .i64 s.t,.slice E s.es.length c],.int .i64 i] w fun v w'=>v=.tuple #[.int .i64 t,.bool true]∧ag w w':=by
 subst ht;exact wK s i E c w h hm hi
theorem rM (s:Rf) (i:Int) (E:Option Addr) (c:Nat) (w:World) (h:cC w (.slice E s.es.length c) s.es) (hm:cj s.b s.t s.es=true) (hi:¬ i≤bm s):Rt prog 82 [.agg #[.int .i64 s.b,.int .i64 s.t,.slice E s.es.length c],.int .i64 i] w fun v w'=>v=.tuple #[.int .i64 0,.bool false]∧ag w w':=
 (Rt.of (nk s.b s.t i (.slice E s.es.length c) s.es w h hm)).mono fun v w' h9=>⟨by
  have hl:dh s.b s.es=bm s:=rfl;rw [h9.1];unfold lY;rw [if_neg (by omega)],h9.2⟩
def Aj (s:Rf) (i tt:Int) (bb:Bool):Prop:=(bb=true∧s.b≤i∧i≤bm s∧tt=de s.b s.t s.es i)∨(bb=false∧¬ i≤bm s∧tt=0)
theorem rN (s:Rf) (i:Int) (E:Option Addr) (c:Nat) (w:World) (h:cC w (.slice E s.es.length c) s.es) (hm:cj s.b s.t s.es=true) {tt:Int} {bb:Bool} (hv:Aj s i tt bb):Rt prog 82 [.agg #[.int .i64 s.b,.int .i64 s.t,.slice E s.es.length c],.int .i64 i] w fun v w'=>v=.tuple #[.int .i64 tt,.bool bb]∧ag w w':=by
 rcases hv with ⟨rfl,h1,h2,h3⟩ | ⟨rfl,h1,rfl⟩
 ·exact pQ s i E c w h hm ⟨h1,h2⟩ h3
 ·exact rM s i E c w h hm h1
theorem rO (s:Rf) (i:Int) (E:Option Addr) (c:Nat) (w:World) (h:cC w (.slice E s.es.length c) s.es) (hm:cj s.b s.t s.es=true) (hi:s.b≤i∧i≤bm s):Rt prog 80 [.agg #[.int .i64 s.b,.int .i64 s.t,.slice E s.es.length c],.int .i64 i] w fun v w'=>(∃ A' c',v=.agg #[.int .i64 i,.int .i64 (de s.b s.t s.es i),.slice A' (s.es.drop (i-s.b).toNat).length c']∧w'.ownsRow w.heap.size 99 3 (.slice A' (s.es.drop (i-s.b).toNat).length c') (s.es.drop (i-s.b).toNat).length (dT (s.es.drop (i-s.b).toNat)))∧ag w w':=
 (pt s.b s.t i E c s.es w h hm ⟨hi.1,by have h9:=(eU hm).1;have hl:dh s.b s.es=bm s:=rfl;omega⟩).mono fun v w' ⟨A',k,c',hv,ho,hF⟩=>by
  have hk:k=(s.es.drop (i-s.b).toNat).length:=by
   have h9:=ho.1;rw [kJ] at h9;omega
  subst hk;exact ⟨⟨A',c',hv,ho⟩,hF⟩
theorem rG (w0:World) (Z:Nat→Prop) (T g:Nat) (s:Rf) (m:Msg) (w:World) (h:aR w0 Z w T g ⟨s,[]⟩) (hF:RfF s) (_:m.ix≤1099511625728) (hdz:m.d.size≤1024) :
 Rt prog 128 [.pointer (some ⟨g,0,none⟩),.agg (bC m).toArray] w (fun v w'=>v=.tuple #[]∧aR w0 Z w' T g (oH s m)):=by
 obtain ⟨tC,htC⟩:∃ x,x=de s.b s.t s.es s.commit:=⟨_,rfl⟩;have hm:=hF.lg;have hl:dh s.b s.es=bm s:=rfl;have hco:=hF.co;have hpa:=hF.pa;refine enter (n:=197) Tryz.func128 rfl rfl rfl (ao (ah (bZ (v:=.agg _) rfl ?_)));intro b3 w1 E3 hb3 hk3;obtain ⟨wm,hwm⟩:∃ x,x=w1:=⟨_,rfl⟩
 have h3a:=h.at_ (Z':=fun k=>Z k∨k=b3) E3 (fun k hk=>by
  rcases hk with e | e
  ·exact ⟨Nat.lt_of_lt_of_le (h.zw k e) E3.size,.inl e⟩
  ·subst e;exact ⟨hk3.lt,.inr (by omega)⟩)
 obtain ⟨Z7,hZ7⟩:∃ Z7,Z7=fun k=>Z k∨k=b3:=⟨_,rfl⟩
 have h3:aR wm Z7 w1 T g ⟨s,[]⟩:=by
  rw [hZ7,hwm];exact h3a
 have hzi:∀ k,Z k→Z7 k:=fun k hk=>by rw [hZ7];exact .inl hk
 have hzb:Z7 b3:=by rw [hZ7];exact .inr rfl
 have hE3:ag w wm:=by rw [hwm];exact E3
 have hm9:Blk wm b3 39 (bC m).toArray:=by rw [hwm];exact hk3
 have hm3:=h3.kept hzb hm9;obtain ⟨tgV,aV,OV,ocV,LV,hsV⟩:=h3.ex;have heV:=(bo.rd hsV.f).e;obtain rfl:=hsV.nilL;refine an (ai (ao ?_));apply bK 16 [(9,eqp _),(10,eqp _),(11,eqp _),(12,eqp _),(13,eqp (.agg #[.int .i64 s.b,.int .i64 s.t,.slice aV.E s.es.length aV.Ec])),(14,eqp _),(15,eqp _),(16,eqp _),(17,eqp _),(18,eqp (.int .i64 s.commit)),(19,eqp (.tuple #[.int .i64 tC,.bool true])),(8,eqp (.tuple #[.int .i64 tC,.bool true])),(20,eqp _),(21,eqp _),(4,eqp _),(5,eqp _)] (by repeat first | exact ct | refine cr ?_ | refine bX ?_) (by kernel_rfl) (by kernel_rfl) ⟨aj _,aj _,aj _,aj _,aj _,aj _,aj _,aj _,aj _,aj _,aj _,aj _,aj _,aj _,aj _,aj _,trivial⟩
 case hop=>
  constructor
  ·rintro-w3 D3;exact au (aF (v:=.pointer _) rfl) rfl
  constructor
  ·rintro-w4 D4;rintro _ rfl;exact au (av rfl) rfl
  constructor
  ·rintro-w5 D5;rintro _ rfl;exact au (aa aN rfl) rfl
  constructor
  ·rintro-w6 D6;rintro _ rfl;exact au (aa bn rfl) rfl
  constructor
  ·rintro-w7 D7;rintro _ rfl;exact au (aH (cs:=[.int .i64 s.b,.int .i64 s.t,.slice aV.E s.es.length aV.Ec]) bQ bh rfl (gW (hsV.b.from_ (ag.rfl_.next D7)))) rfl
  constructor
  ·rintro-w8 D8;exact au (aF (v:=.pointer _) rfl) rfl
  constructor
  ·rintro-w9 D9;rintro _ rfl;exact au (av rfl) rfl
  constructor
  ·rintro-w10 D10;rintro _ rfl;exact au (aa aN rfl) rfl
  constructor
  ·rintro-w11 D11;rintro _ rfl;exact au (aa bW rfl) rfl
  constructor
  ·rintro-w12 D12;rintro _ rfl;exact au (ar ak rfl (by exact (show _=some (Value.int .i64 s.commit) from (h3.from_ (ag.rfl_.next D12)).rd (fun _=>rfl)))) rfl
  constructor
  ·rintro-w13 D13;rintro v13_13 rfl v13_18 rfl;refine fL iR ((pQ s s.commit aV.E aV.Ec _ (heV.from_ (ag.rfl_.next D13)) hm hco htC).mono ?_);rintro v w9 ⟨rfl,hF9⟩;exact ⟨hF9,rfl⟩
  constructor
  ·rintro-w14 D14;rintro v14_19 rfl;exact au (aF (v:=.tuple _) rfl) rfl
  constructor
  ·rintro-w15 D15;rintro v15_8 rfl;exact au (a_ rfl rfl) rfl
  constructor
  ·rintro-w16 D16;rintro v16_8 rfl;exact au (a_ rfl rfl) rfl
  constructor
  ·rintro-w17 D17;rintro _ rfl;exact au (cZ (v:=.int _ _) rfl) rfl
  constructor
  ·rintro-w18 D18;rintro _ rfl;exact au (cZ (v:=.bool _) rfl) rfl
  exact trivial
 case hend=>
  intro w19 D19;rintro _ rfl _ rfl _ rfl _ rfl v13 rfl _ rfl _ rfl _ rfl _ rfl v18 rfl v19 rfl v8 rfl _ rfl _ rfl _ rfl _ rfl;show St ..;refine an (ai (ao (ao ?_)));rcases pX m.ix s.commit m.lt tC with ho1 | ⟨ho1,ho2⟩ | ⟨ho1,ho2⟩
  ·have hold:m.ix≤s.commit∨m.lt<tC:=.inl ho1;apply bK 14 [(22,eqp _),(23,eqp (.int .i64 m.ix)),(24,eqp _),(25,eqp _),(26,eqp _),(27,eqp _),(28,eqp (.int .i64 s.commit)),(29,eqp _),(30,eqp _),(31,eqp _),(32,eqp _),(33,eqp _),(34,eqp _),(35,eqp _)] (by repeat first | exact ct | refine cr ?_ | refine bX ?_) (by kernel_rfl) (by kernel_rfl) ⟨aj _,aj _,aj _,aj _,aj _,aj _,aj _,aj _,aj _,aj _,aj _,aj _,aj _,aj _,trivial⟩
   case hop=>
    constructor
    ·rintro-w21 D21;exact au (aa bJ rfl) rfl
    constructor
    ·rintro-w22 D22;rintro _ rfl;exact au (ar ak rfl (by exact (show _=some (Value.int .i64 m.ix) from (hm3.from_ ((ag.rfl_.next D19).next D22)).rd 4 rfl))) rfl
    constructor
    ·rintro-w23 D23;exact au (aF (v:=.pointer _) rfl) rfl
    constructor
    ·rintro-w24 D24;rintro _ rfl;exact au (av rfl) rfl
    constructor
    ·rintro-w25 D25;rintro _ rfl;exact au (aa aN rfl) rfl
    constructor
    ·rintro-w26 D26;rintro _ rfl;exact au (aa bW rfl) rfl
    constructor
    ·rintro-w27 D27;rintro _ rfl;exact au (ar ak rfl (by exact (show _=some (Value.int .i64 s.commit) from (h3.from_ ((ag.rfl_.next D19).next D27)).rd (fun _=>rfl)))) rfl
    constructor
    ·rintro-w28 D28;rintro v28_23 rfl v28_28 rfl;exact au (c6 (eT rfl rfl) (decide_eq_true ho1)) rfl
    constructor
    ·rintro-w29 D29;rintro _ rfl;exact au (aF (v:=.bool _) rfl) rfl
    constructor
    ·rintro-w30 D30;rintro _ rfl;exact ck rfl rfl rfl
    constructor
    ·rintro-w31 D31;rintro _ rfl _ rfl;exact ck rfl rfl rfl
    constructor
    ·rintro-w32 D32;rintro _ rfl;exact ck rfl rfl rfl
    constructor
    ·rintro-w33 D33;rintro _ rfl _ rfl _ rfl;exact ck rfl rfl rfl
    constructor
    ·rintro-w34 D34;rintro _ rfl _ rfl;exact au (aM (v:=.bool _) rfl rfl) rfl
    exact trivial
   case hend=>
    intro w35 D35;rintro _ rfl v23 rfl _ rfl _ rfl _ rfl _ rfl v28 rfl _ rfl _ rfl _ rfl _ rfl _ rfl _ rfl _ rfl;show St ..;refine an (ai (aZ rfl (ao ?_)));apply fA [(0,36,fun _ v _=>v=_),(1,37,fun _ v _=>v=_),(2,38,fun S v w9=>S 11=false→(eqp (.int .i64 m.f)) v w9),(3,39,fun _ v _=>v=_),(4,40,fun _ v _=>v=_),(5,41,fun _ v _=>v=_),(6,42,fun _ v _=>v=_),(7,43,fun S v w9=>S 11=false→(eqp (.int .i64 s.commit)) v w9),(8,44,fun _ v _=>v=_),(9,45,fun S v w9=>S 11=false→(eqp (.int .i64 m.rd)) v w9),(10,46,fun S v w9=>S 11=false→(eqp (.agg (bC ({ zM with k:=4,t:=m.f,ok:=true,ix:=s.commit,rd:=m.rd }:Msg)).toArray)) v w9),(11,47,fun _ v _=>v=_)] [11] (fun S w'=>(S 11=false→ag w35 w')∧(S 11=true→aR wm Z7 w' T g (iI ⟨s,[]⟩ m true s.commit))) (by kernel_rfl) (by kernel_rfl) rfl rfl ⟨fun _ _ _ _ _ _ _ h=>h,fun _ _ _ _ _ _ _ h=>h,fun S i v w1 w2 hq hF h h0=>(aj _) v w1 w2 hF (h (dY h0)),fun _ _ _ _ _ _ _ h=>h,fun _ _ _ _ _ _ _ h=>h,fun _ _ _ _ _ _ _ h=>h,fun _ _ _ _ _ _ _ h=>h,fun S i v w1 w2 hq hF h h0=>(aj _) v w1 w2 hF (h (dY h0)),fun _ _ _ _ _ _ _ h=>h,fun S i v w1 w2 hq hF h h0=>(aj _) v w1 w2 hF (h (dY h0)),fun S i v w1 w2 hq hF h h0=>(aj _) v w1 w2 hF (h (dY h0)),fun _ _ _ _ _ _ _ h=>h,trivial⟩ (fun S i w1 w2 hq hF h=>⟨fun h0=>(h.1 (dY h0)).next hF,fun h1=>(fun h=>h.from_ hF) (h.2 (jr (show 11≠i by rintro rfl;exact absurd hq (by decide)) h1))⟩) ⟨fun _=>ag.rfl_.d1,fun h=>by cases h⟩
    case hstep=>
     constructor
     ·rintro S L' w36 hU hmo hme hI hM hC hS ⟨-⟩;have hS0:S 11=false:=(af hC (j:=11) rfl (by kernel_rfl) hS);have hM36:=hM.1 hS0;have e0:=hI.1 0 (dv rfl);exact az [(0,_)] hU hmo hme hI hM (.head _) rfl rfl (by kernel_rfl) ⟨e0,trivial⟩ (aF (v:=.pointer _) rfl) ag.rfl_ (rfl)
     constructor
     ·rintro S L' w37 hU hmo hme hI hM hC hS ⟨-⟩;have hS0:S 11=false:=(af hC (j:=11) rfl (by kernel_rfl) (af hC (j:=10) rfl (by kernel_rfl) (af hC (j:=2) rfl (by kernel_rfl) hS)));have hM37:=hM.1 hS0;have e3:=hI.1 3 (dv rfl);exact az [(3,_)] hU hmo hme hI hM (.tail _ (.head _)) rfl rfl (by kernel_rfl) ⟨e3,trivial⟩ (aa bY rfl) ag.rfl_ (rfl)
     constructor
     ·rintro S L' w38 hU hmo hme hI hM hC hS ⟨d1,-⟩;have hS0:S 11=false:=(af hC (j:=11) rfl (by kernel_rfl) (af hC (j:=10) rfl (by kernel_rfl) hS));have hM38:=hM.1 hS0;obtain ⟨v38_37,e37,h37⟩:=hI.get (i:=1) (.tail _ (.head _)) d1;obtain rfl:=h37;exact az [(37,_)] hU hmo hme hI hM (gM 2 rfl) rfl rfl (by kernel_rfl) ⟨e37,trivial⟩ (ar ak rfl (by exact (show _=some (Value.int .i64 m.f) from (hm3.from_ (((ag.rfl_.next D19).next D35).next hM38)).rd 1 rfl))) ag.rfl_ (fun _=>rfl)
     constructor
     ·rintro S L' w39 hU hmo hme hI hM hC hS ⟨-⟩;have hS0:S 11=false:=(af hC (j:=11) rfl (by kernel_rfl) (af hC (j:=10) rfl (by kernel_rfl) (af hC (j:=7) rfl (by kernel_rfl) (af hC (j:=6) rfl (by kernel_rfl) (af hC (j:=5) rfl (by kernel_rfl) (af hC (j:=4) rfl (by kernel_rfl) hS))))));have hM39:=hM.1 hS0;have e0:=hI.1 0 (dv rfl);exact az [(0,_)] hU hmo hme hI hM (gM 3 rfl) rfl rfl (by kernel_rfl) ⟨e0,trivial⟩ (aF (v:=.pointer _) rfl) ag.rfl_ (rfl)
     constructor
     ·rintro S L' w40 hU hmo hme hI hM hC hS ⟨d3,-⟩;have hS0:S 11=false:=(af hC (j:=11) rfl (by kernel_rfl) (af hC (j:=10) rfl (by kernel_rfl) (af hC (j:=7) rfl (by kernel_rfl) (af hC (j:=6) rfl (by kernel_rfl) (af hC (j:=5) rfl (by kernel_rfl) hS)))));have hM40:=hM.1 hS0;obtain ⟨v40_39,e39,h39⟩:=hI.get (i:=3) (gM 3 rfl) d3;obtain rfl:=h39;exact az [(39,_)] hU hmo hme hI hM (gM 4 rfl) rfl rfl (by kernel_rfl) ⟨e39,trivial⟩ (av rfl) ag.rfl_ (rfl)
     constructor
     ·rintro S L' w41 hU hmo hme hI hM hC hS ⟨d4,-⟩;have hS0:S 11=false:=(af hC (j:=11) rfl (by kernel_rfl) (af hC (j:=10) rfl (by kernel_rfl) (af hC (j:=7) rfl (by kernel_rfl) (af hC (j:=6) rfl (by kernel_rfl) hS))));have hM41:=hM.1 hS0;obtain ⟨v41_40,e40,h40⟩:=hI.get (i:=4) (gM 4 rfl) d4;obtain rfl:=h40;exact az [(40,_)] hU hmo hme hI hM (gM 5 rfl) rfl rfl (by kernel_rfl) ⟨e40,trivial⟩ (aa aN rfl) ag.rfl_ (rfl)
     constructor
     ·rintro S L' w42 hU hmo hme hI hM hC hS ⟨d5,-⟩;have hS0:S 11=false:=(af hC (j:=11) rfl (by kernel_rfl) (af hC (j:=10) rfl (by kernel_rfl) (af hC (j:=7) rfl (by kernel_rfl) hS)));have hM42:=hM.1 hS0;obtain ⟨v42_41,e41,h41⟩:=hI.get (i:=5) (gM 5 rfl) d5;obtain rfl:=h41;exact az [(41,_)] hU hmo hme hI hM (gM 6 rfl) rfl rfl (by kernel_rfl) ⟨e41,trivial⟩ (aa bW rfl) ag.rfl_ (rfl)
     constructor
     ·rintro S L' w43 hU hmo hme hI hM hC hS ⟨d6,-⟩;have hS0:S 11=false:=(af hC (j:=11) rfl (by kernel_rfl) (af hC (j:=10) rfl (by kernel_rfl) hS));have hM43:=hM.1 hS0;obtain ⟨v43_42,e42,h42⟩:=hI.get (i:=6) (gM 6 rfl) d6;obtain rfl:=h42;exact az [(42,_)] hU hmo hme hI hM (gM 7 rfl) rfl rfl (by kernel_rfl) ⟨e42,trivial⟩ (ar ak rfl (by exact (show _=some (Value.int .i64 s.commit) from (h3.from_ (((ag.rfl_.next D19).next D35).next hM43)).rd (fun _=>rfl)))) ag.rfl_ (fun _=>rfl)
     constructor
     ·rintro S L' w44 hU hmo hme hI hM hC hS ⟨-⟩;have hS0:S 11=false:=(af hC (j:=11) rfl (by kernel_rfl) (af hC (j:=10) rfl (by kernel_rfl) (af hC (j:=9) rfl (by kernel_rfl) hS)));have hM44:=hM.1 hS0;have e3:=hI.1 3 (dv rfl);exact az [(3,_)] hU hmo hme hI hM (gM 8 rfl) rfl rfl (by kernel_rfl) ⟨e3,trivial⟩ (aa dk rfl) ag.rfl_ (rfl)
     constructor
     ·rintro S L' w45 hU hmo hme hI hM hC hS ⟨d8,-⟩;have hS0:S 11=false:=(af hC (j:=11) rfl (by kernel_rfl) (af hC (j:=10) rfl (by kernel_rfl) hS));have hM45:=hM.1 hS0;obtain ⟨v45_44,e44,h44⟩:=hI.get (i:=8) (gM 8 rfl) d8;obtain rfl:=h44;exact az [(44,_)] hU hmo hme hI hM (gM 9 rfl) rfl rfl (by kernel_rfl) ⟨e44,trivial⟩ (ar ak rfl (by exact (show _=some (Value.int .i64 m.rd) from (hm3.from_ (((ag.rfl_.next D19).next D35).next hM45)).rd 7 rfl))) ag.rfl_ (fun _=>rfl)
     constructor
     ·rintro S L' w46 hU hmo hme hI hM hC hS ⟨d2,d7,d9,-⟩;have hS0:S 11=false:=(af hC (j:=11) rfl (by kernel_rfl) hS);have hM46:=hM.1 hS0;obtain ⟨v46_38,e38,h38⟩:=hI.get (i:=2) (gM 2 rfl) d2;obtain rfl:=h38 hS0;obtain ⟨v46_43,e43,h43⟩:=hI.get (i:=7) (gM 7 rfl) d7;obtain rfl:=h43 hS0;obtain ⟨v46_45,e45,h45⟩:=hI.get (i:=9) (gM 9 rfl) d9;obtain rfl:=h45 hS0;exact az [(38,_),(43,_),(45,_)] hU hmo hme hI hM (gM 10 rfl) rfl rfl (by kernel_rfl) ⟨e38,e43,e45,trivial⟩ (cl (l:=[(0,.const (.int .i64 4)),(2,.tmp 38),(8,.const (.bool true)),(4,.tmp 43),(7,.tmp 45)]) (dt _ _ _)) ag.rfl_ (fun _=>rfl)
     constructor
     ·rintro S L' w47 hU hmo hme hI hM hC hS ⟨d0,d10,-⟩;have hS0:S 11=false:=hS;have hM47:=hM.1 hS0;obtain ⟨v47_36,e36,h36⟩:=hI.get (i:=0) (.head _) d0;obtain rfl:=h36;obtain ⟨v47_46,e46,h46⟩:=hI.get (i:=10) (gM 10 rfl) d10;obtain rfl:=h46 hS0;refine dV (al:=[.tmp 36,.tmp 46]) [(36,_),(46,_)] hU hI (gM 11 rfl) (by kernel_rfl) ⟨e36,e46,trivial⟩ fO ((gH wm Z7 T g ⟨s,[]⟩ _ (h3.from_ (((ag.rfl_.next D19).next D35).next hM47)) _ _ _ _ _ (hsV.from_ (((ag.rfl_.next D19).next D35).next hM47)) (Nat.zero_le _) ({ zM with k:=4,t:=m.f,ok:=true,ix:=s.commit,rd:=m.rd }:Msg) ⟨du,Col.none⟩).mono ?_);rintro v9 w2 ⟨rfl,hS2⟩;exact ⟨⟨fun h0=>(by rw [dS] at h0;cases h0),fun _=>hS2⟩,rfl,⟨fun _ _ _ h=>h,fun _ _ _ h=>h,fun _ _ _ _ h0=>(by rw [dS] at h0;cases h0),fun _ _ _ h=>h,fun _ _ _ h=>h,fun _ _ _ h=>h,fun _ _ _ h=>h,fun _ _ _ _ h0=>(by rw [dS] at h0;cases h0),fun _ _ _ h=>h,fun _ _ _ _ h0=>(by rw [dS] at h0;cases h0),fun _ _ _ _ h0=>(by rw [dS] at h0;cases h0),fun _ _ _ h=>h,trivial⟩⟩
     exact trivial
    case hend=>
     intro w48 hM;obtain hS9:=hM.2 rfl;rintro v48_36 rfl v48_37 rfl v48_38-v48_39 rfl v48_40 rfl v48_41 rfl v48_42 rfl v48_43-v48_44 rfl v48_45-v48_46-v48_47 rfl;refine ef (ai (aE (aG (eg rfl ?_))));rw [htC] at hold;rw [lZ hold];exact ⟨rfl,h.back hE3 (hS9.from_ ag.rfl_) hzi⟩
  ·have hold:m.ix≤s.commit∨m.lt<tC:=.inr ho2;apply bK 14 [(22,eqp _),(23,eqp (.int .i64 m.ix)),(24,eqp _),(25,eqp _),(26,eqp _),(27,eqp _),(28,eqp (.int .i64 s.commit)),(29,eqp _),(30,eqp _),(31,eqp _),(32,eqp (.int .i64 m.lt)),(33,eqp _),(34,eqp _),(35,eqp _)] (by repeat first | exact ct | refine cr ?_ | refine bX ?_) (by kernel_rfl) (by kernel_rfl) ⟨aj _,aj _,aj _,aj _,aj _,aj _,aj _,aj _,aj _,aj _,aj _,aj _,aj _,aj _,trivial⟩
   case hop=>
    constructor
    ·rintro-w50 D50;exact au (aa bJ rfl) rfl
    constructor
    ·rintro-w51 D51;rintro _ rfl;exact au (ar ak rfl (by exact (show _=some (Value.int .i64 m.ix) from (hm3.from_ ((ag.rfl_.next D19).next D51)).rd 4 rfl))) rfl
    constructor
    ·rintro-w52 D52;exact au (aF (v:=.pointer _) rfl) rfl
    constructor
    ·rintro-w53 D53;rintro _ rfl;exact au (av rfl) rfl
    constructor
    ·rintro-w54 D54;rintro _ rfl;exact au (aa aN rfl) rfl
    constructor
    ·rintro-w55 D55;rintro _ rfl;exact au (aa bW rfl) rfl
    constructor
    ·rintro-w56 D56;rintro _ rfl;exact au (ar ak rfl (by exact (show _=some (Value.int .i64 s.commit) from (h3.from_ ((ag.rfl_.next D19).next D56)).rd (fun _=>rfl)))) rfl
    constructor
    ·rintro-w57 D57;rintro v57_23 rfl v57_28 rfl;exact au (cu (eT rfl rfl) (decide_eq_false ho1)) rfl
    constructor
    ·rintro-w58 D58;rintro _ rfl;exact au (aF (v:=.bool _) rfl) rfl
    constructor
    ·rintro-w59 D59;rintro _ rfl;exact aL rfl (aa cG rfl) rfl
    constructor
    ·rintro-w60 D60;rintro _ rfl _ rfl;exact aL rfl (ar ak rfl (by exact (show _=some (Value.int .i64 m.lt) from (hm3.from_ ((ag.rfl_.next D19).next D60)).rd 5 rfl))) rfl
    constructor
    ·rintro-w61 D61;rintro _ rfl;exact aL rfl (aF (v:=.int _ _) rfl) rfl
    constructor
    ·rintro-w62 D62;rintro _ rfl v62_32 rfl _ rfl;exact aL rfl (c6 (ch rfl rfl) (decide_eq_true ho2)) rfl
    constructor
    ·rintro-w63 D63;rintro _ rfl _ rfl;exact au (ay (v:=.bool _) rfl rfl) rfl
    exact trivial
   case hend=>
    intro w64 D64;rintro _ rfl v23 rfl _ rfl _ rfl _ rfl _ rfl v28 rfl _ rfl _ rfl _ rfl v32 rfl _ rfl _ rfl _ rfl;show St ..;refine an (ai (aZ rfl (ao ?_)));apply fA [(0,36,fun _ v _=>v=_),(1,37,fun _ v _=>v=_),(2,38,fun S v w9=>S 11=false→(eqp (.int .i64 m.f)) v w9),(3,39,fun _ v _=>v=_),(4,40,fun _ v _=>v=_),(5,41,fun _ v _=>v=_),(6,42,fun _ v _=>v=_),(7,43,fun S v w9=>S 11=false→(eqp (.int .i64 s.commit)) v w9),(8,44,fun _ v _=>v=_),(9,45,fun S v w9=>S 11=false→(eqp (.int .i64 m.rd)) v w9),(10,46,fun S v w9=>S 11=false→(eqp (.agg (bC ({ zM with k:=4,t:=m.f,ok:=true,ix:=s.commit,rd:=m.rd }:Msg)).toArray)) v w9),(11,47,fun _ v _=>v=_)] [11] (fun S w'=>(S 11=false→ag w64 w')∧(S 11=true→aR wm Z7 w' T g (iI ⟨s,[]⟩ m true s.commit))) (by kernel_rfl) (by kernel_rfl) rfl rfl ⟨fun _ _ _ _ _ _ _ h=>h,fun _ _ _ _ _ _ _ h=>h,fun S i v w1 w2 hq hF h h0=>(aj _) v w1 w2 hF (h (dY h0)),fun _ _ _ _ _ _ _ h=>h,fun _ _ _ _ _ _ _ h=>h,fun _ _ _ _ _ _ _ h=>h,fun _ _ _ _ _ _ _ h=>h,fun S i v w1 w2 hq hF h h0=>(aj _) v w1 w2 hF (h (dY h0)),fun _ _ _ _ _ _ _ h=>h,fun S i v w1 w2 hq hF h h0=>(aj _) v w1 w2 hF (h (dY h0)),fun S i v w1 w2 hq hF h h0=>(aj _) v w1 w2 hF (h (dY h0)),fun _ _ _ _ _ _ _ h=>h,trivial⟩ (fun S i w1 w2 hq hF h=>⟨fun h0=>(h.1 (dY h0)).next hF,fun h1=>(fun h=>h.from_ hF) (h.2 (jr (show 11≠i by rintro rfl;exact absurd hq (by decide)) h1))⟩) ⟨fun _=>ag.rfl_.d1,fun h=>by cases h⟩
    case hstep=>
     constructor
     ·rintro S L' w65 hU hmo hme hI hM hC hS ⟨-⟩;have hS0:S 11=false:=(af hC (j:=11) rfl (by kernel_rfl) hS);have hM65:=hM.1 hS0;have e0:=hI.1 0 (dv rfl);exact az [(0,_)] hU hmo hme hI hM (.head _) rfl rfl (by kernel_rfl) ⟨e0,trivial⟩ (aF (v:=.pointer _) rfl) ag.rfl_ (rfl)
     constructor
     ·rintro S L' w66 hU hmo hme hI hM hC hS ⟨-⟩;have hS0:S 11=false:=(af hC (j:=11) rfl (by kernel_rfl) (af hC (j:=10) rfl (by kernel_rfl) (af hC (j:=2) rfl (by kernel_rfl) hS)));have hM66:=hM.1 hS0;have e3:=hI.1 3 (dv rfl);exact az [(3,_)] hU hmo hme hI hM (.tail _ (.head _)) rfl rfl (by kernel_rfl) ⟨e3,trivial⟩ (aa bY rfl) ag.rfl_ (rfl)
     constructor
     ·rintro S L' w67 hU hmo hme hI hM hC hS ⟨d1,-⟩;have hS0:S 11=false:=(af hC (j:=11) rfl (by kernel_rfl) (af hC (j:=10) rfl (by kernel_rfl) hS));have hM67:=hM.1 hS0;obtain ⟨v67_37,e37,h37⟩:=hI.get (i:=1) (.tail _ (.head _)) d1;obtain rfl:=h37;exact az [(37,_)] hU hmo hme hI hM (gM 2 rfl) rfl rfl (by kernel_rfl) ⟨e37,trivial⟩ (ar ak rfl (by exact (show _=some (Value.int .i64 m.f) from (hm3.from_ (((ag.rfl_.next D19).next D64).next hM67)).rd 1 rfl))) ag.rfl_ (fun _=>rfl)
     constructor
     ·rintro S L' w68 hU hmo hme hI hM hC hS ⟨-⟩;have hS0:S 11=false:=(af hC (j:=11) rfl (by kernel_rfl) (af hC (j:=10) rfl (by kernel_rfl) (af hC (j:=7) rfl (by kernel_rfl) (af hC (j:=6) rfl (by kernel_rfl) (af hC (j:=5) rfl (by kernel_rfl) (af hC (j:=4) rfl (by kernel_rfl) hS))))));have hM68:=hM.1 hS0;have e0:=hI.1 0 (dv rfl);exact az [(0,_)] hU hmo hme hI hM (gM 3 rfl) rfl rfl (by kernel_rfl) ⟨e0,trivial⟩ (aF (v:=.pointer _) rfl) ag.rfl_ (rfl)
     constructor
     ·rintro S L' w69 hU hmo hme hI hM hC hS ⟨d3,-⟩;have hS0:S 11=false:=(af hC (j:=11) rfl (by kernel_rfl) (af hC (j:=10) rfl (by kernel_rfl) (af hC (j:=7) rfl (by kernel_rfl) (af hC (j:=6) rfl (by kernel_rfl) (af hC (j:=5) rfl (by kernel_rfl) hS)))));have hM69:=hM.1 hS0;obtain ⟨v69_39,e39,h39⟩:=hI.get (i:=3) (gM 3 rfl) d3;obtain rfl:=h39;exact az [(39,_)] hU hmo hme hI hM (gM 4 rfl) rfl rfl (by kernel_rfl) ⟨e39,trivial⟩ (av rfl) ag.rfl_ (rfl)
     constructor
     ·rintro S L' w70 hU hmo hme hI hM hC hS ⟨d4,-⟩;have hS0:S 11=false:=(af hC (j:=11) rfl (by kernel_rfl) (af hC (j:=10) rfl (by kernel_rfl) (af hC (j:=7) rfl (by kernel_rfl) (af hC (j:=6) rfl (by kernel_rfl) hS))));have hM70:=hM.1 hS0;obtain ⟨v70_40,e40,h40⟩:=hI.get (i:=4) (gM 4 rfl) d4;obtain rfl:=h40;exact az [(40,_)] hU hmo hme hI hM (gM 5 rfl) rfl rfl (by kernel_rfl) ⟨e40,trivial⟩ (aa aN rfl) ag.rfl_ (rfl)
     constructor
     ·rintro S L' w71 hU hmo hme hI hM hC hS ⟨d5,-⟩;have hS0:S 11=false:=(af hC (j:=11) rfl (by kernel_rfl) (af hC (j:=10) rfl (by kernel_rfl) (af hC (j:=7) rfl (by kernel_rfl) hS)));have hM71:=hM.1 hS0;obtain ⟨v71_41,e41,h41⟩:=hI.get (i:=5) (gM 5 rfl) d5;obtain rfl:=h41;exact az [(41,_)] hU hmo hme hI hM (gM 6 rfl) rfl rfl (by kernel_rfl) ⟨e41,trivial⟩ (aa bW rfl) ag.rfl_ (rfl)
     constructor
     ·rintro S L' w72 hU hmo hme hI hM hC hS ⟨d6,-⟩;have hS0:S 11=false:=(af hC (j:=11) rfl (by kernel_rfl) (af hC (j:=10) rfl (by kernel_rfl) hS));have hM72:=hM.1 hS0;obtain ⟨v72_42,e42,h42⟩:=hI.get (i:=6) (gM 6 rfl) d6;obtain rfl:=h42;exact az [(42,_)] hU hmo hme hI hM (gM 7 rfl) rfl rfl (by kernel_rfl) ⟨e42,trivial⟩ (ar ak rfl (by exact (show _=some (Value.int .i64 s.commit) from (h3.from_ (((ag.rfl_.next D19).next D64).next hM72)).rd (fun _=>rfl)))) ag.rfl_ (fun _=>rfl)
     constructor
     ·rintro S L' w73 hU hmo hme hI hM hC hS ⟨-⟩;have hS0:S 11=false:=(af hC (j:=11) rfl (by kernel_rfl) (af hC (j:=10) rfl (by kernel_rfl) (af hC (j:=9) rfl (by kernel_rfl) hS)));have hM73:=hM.1 hS0;have e3:=hI.1 3 (dv rfl);exact az [(3,_)] hU hmo hme hI hM (gM 8 rfl) rfl rfl (by kernel_rfl) ⟨e3,trivial⟩ (aa dk rfl) ag.rfl_ (rfl)
     constructor
     ·rintro S L' w74 hU hmo hme hI hM hC hS ⟨d8,-⟩;have hS0:S 11=false:=(af hC (j:=11) rfl (by kernel_rfl) (af hC (j:=10) rfl (by kernel_rfl) hS));have hM74:=hM.1 hS0;obtain ⟨v74_44,e44,h44⟩:=hI.get (i:=8) (gM 8 rfl) d8;obtain rfl:=h44;exact az [(44,_)] hU hmo hme hI hM (gM 9 rfl) rfl rfl (by kernel_rfl) ⟨e44,trivial⟩ (ar ak rfl (by exact (show _=some (Value.int .i64 m.rd) from (hm3.from_ (((ag.rfl_.next D19).next D64).next hM74)).rd 7 rfl))) ag.rfl_ (fun _=>rfl)
     constructor
     ·rintro S L' w75 hU hmo hme hI hM hC hS ⟨d2,d7,d9,-⟩;have hS0:S 11=false:=(af hC (j:=11) rfl (by kernel_rfl) hS);have hM75:=hM.1 hS0;obtain ⟨v75_38,e38,h38⟩:=hI.get (i:=2) (gM 2 rfl) d2;obtain rfl:=h38 hS0;obtain ⟨v75_43,e43,h43⟩:=hI.get (i:=7) (gM 7 rfl) d7;obtain rfl:=h43 hS0;obtain ⟨v75_45,e45,h45⟩:=hI.get (i:=9) (gM 9 rfl) d9;obtain rfl:=h45 hS0;exact az [(38,_),(43,_),(45,_)] hU hmo hme hI hM (gM 10 rfl) rfl rfl (by kernel_rfl) ⟨e38,e43,e45,trivial⟩ (cl (l:=[(0,.const (.int .i64 4)),(2,.tmp 38),(8,.const (.bool true)),(4,.tmp 43),(7,.tmp 45)]) (dt _ _ _)) ag.rfl_ (fun _=>rfl)
     constructor
     ·rintro S L' w76 hU hmo hme hI hM hC hS ⟨d0,d10,-⟩;have hS0:S 11=false:=hS;have hM76:=hM.1 hS0;obtain ⟨v76_36,e36,h36⟩:=hI.get (i:=0) (.head _) d0;obtain rfl:=h36;obtain ⟨v76_46,e46,h46⟩:=hI.get (i:=10) (gM 10 rfl) d10;obtain rfl:=h46 hS0;refine dV (al:=[.tmp 36,.tmp 46]) [(36,_),(46,_)] hU hI (gM 11 rfl) (by kernel_rfl) ⟨e36,e46,trivial⟩ fO ((gH wm Z7 T g ⟨s,[]⟩ _ (h3.from_ (((ag.rfl_.next D19).next D64).next hM76)) _ _ _ _ _ (hsV.from_ (((ag.rfl_.next D19).next D64).next hM76)) (Nat.zero_le _) ({ zM with k:=4,t:=m.f,ok:=true,ix:=s.commit,rd:=m.rd }:Msg) ⟨du,Col.none⟩).mono ?_);rintro v9 w2 ⟨rfl,hS2⟩;exact ⟨⟨fun h0=>(by rw [dS] at h0;cases h0),fun _=>hS2⟩,rfl,⟨fun _ _ _ h=>h,fun _ _ _ h=>h,fun _ _ _ _ h0=>(by rw [dS] at h0;cases h0),fun _ _ _ h=>h,fun _ _ _ h=>h,fun _ _ _ h=>h,fun _ _ _ h=>h,fun _ _ _ _ h0=>(by rw [dS] at h0;cases h0),fun _ _ _ h=>h,fun _ _ _ _ h0=>(by rw [dS] at h0;cases h0),fun _ _ _ _ h0=>(by rw [dS] at h0;cases h0),fun _ _ _ h=>h,trivial⟩⟩
     exact trivial
    case hend=>
     intro w77 hM;obtain hS9:=hM.2 rfl;rintro v77_36 rfl v77_37 rfl v77_38-v77_39 rfl v77_40 rfl v77_41 rfl v77_42 rfl v77_43-v77_44 rfl v77_45-v77_46-v77_47 rfl;refine ef (ai (aE (aG (eg rfl ?_))));rw [htC] at hold;rw [lZ hold];exact ⟨rfl,h.back hE3 (hS9.from_ ag.rfl_) hzi⟩
  have hnew:¬ (m.ix≤s.commit∨m.lt<tC):=fun e=>e.elim ho1 ho2
  apply bK 14 [(22,eqp _),(23,eqp (.int .i64 m.ix)),(24,eqp _),(25,eqp _),(26,eqp _),(27,eqp _),(28,eqp (.int .i64 s.commit)),(29,eqp _),(30,eqp _),(31,eqp _),(32,eqp (.int .i64 m.lt)),(33,eqp _),(34,eqp _),(35,eqp _)] (by repeat first | exact ct | refine cr ?_ | refine bX ?_) (by kernel_rfl) (by kernel_rfl) ⟨aj _,aj _,aj _,aj _,aj _,aj _,aj _,aj _,aj _,aj _,aj _,aj _,aj _,aj _,trivial⟩
  case hop=>
   constructor
   ·rintro-w79 D79;exact au (aa bJ rfl) rfl
   constructor
   ·rintro-w80 D80;rintro _ rfl;exact au (ar ak rfl (by exact (show _=some (Value.int .i64 m.ix) from (hm3.from_ ((ag.rfl_.next D19).next D80)).rd 4 rfl))) rfl
   constructor
   ·rintro-w81 D81;exact au (aF (v:=.pointer _) rfl) rfl
   constructor
   ·rintro-w82 D82;rintro _ rfl;exact au (av rfl) rfl
   constructor
   ·rintro-w83 D83;rintro _ rfl;exact au (aa aN rfl) rfl
   constructor
   ·rintro-w84 D84;rintro _ rfl;exact au (aa bW rfl) rfl
   constructor
   ·rintro-w85 D85;rintro _ rfl;exact au (ar ak rfl (by exact (show _=some (Value.int .i64 s.commit) from (h3.from_ ((ag.rfl_.next D19).next D85)).rd (fun _=>rfl)))) rfl
   constructor
   ·rintro-w86 D86;rintro v86_23 rfl v86_28 rfl;exact au (cu (eT rfl rfl) (decide_eq_false ho1)) rfl
   constructor
   ·rintro-w87 D87;rintro _ rfl;exact au (aF (v:=.bool _) rfl) rfl
   constructor
   ·rintro-w88 D88;rintro _ rfl;exact aL rfl (aa cG rfl) rfl
   constructor
   ·rintro-w89 D89;rintro _ rfl _ rfl;exact aL rfl (ar ak rfl (by exact (show _=some (Value.int .i64 m.lt) from (hm3.from_ ((ag.rfl_.next D19).next D89)).rd 5 rfl))) rfl
   constructor
   ·rintro-w90 D90;rintro _ rfl;exact aL rfl (aF (v:=.int _ _) rfl) rfl
   constructor
   ·rintro-w91 D91;rintro _ rfl v91_32 rfl _ rfl;exact aL rfl (cu (ch rfl rfl) (decide_eq_false ho2)) rfl
   constructor
   ·rintro-w92 D92;rintro _ rfl _ rfl;exact au (ay (v:=.bool _) rfl rfl) rfl
   exact trivial
  case hend=>
   intro w93 D93;rintro _ rfl v23 rfl _ rfl _ rfl _ rfl _ rfl v28 rfl _ rfl _ rfl _ rfl v32 rfl _ rfl _ rfl _ rfl;show St ..;refine an (ai (bg rfl (aO (ai (e_ (G:=Rf) [48,49,50,51,52,53,54,55,56,57,58,59,60,61,62,63,64,65] (fun _=>[]) (fun p8 w'=>p8=pR s m∧p8.part.size≤524288∧aR wm Z7 w' T g ⟨p8,[]⟩) ?_ ?_)))))
   ·refine ao ?_;apply bK 8 [(48,eqp _),(49,eqp _),(50,eqp _),(51,eqp _),(52,eqp (.int .i64 s.partOf)),(53,eqp _),(54,eqp (.int .i64 m.ix)),(55,eqp _)] (by repeat first | exact ct | refine cr ?_ | refine bX ?_) (by kernel_rfl) (by kernel_rfl) ⟨aj _,aj _,aj _,aj _,aj _,aj _,aj _,aj _,trivial⟩
    case hop=>
     constructor
     ·rintro-w95 D95;exact au (aF (v:=.pointer _) rfl) rfl
     constructor
     ·rintro-w96 D96;rintro _ rfl;exact au (av rfl) rfl
     constructor
     ·rintro-w97 D97;rintro _ rfl;exact au (aa aN rfl) rfl
     constructor
     ·rintro-w98 D98;rintro _ rfl;exact au (aa cA rfl) rfl
     constructor
     ·rintro-w99 D99;rintro _ rfl;exact au (ar ak rfl (by exact (show _=some (Value.int .i64 s.partOf) from (h3.from_ (((ag.rfl_.next D19).next D93).next D99)).rd (fun _=>rfl)))) rfl
     constructor
     ·rintro-w100 D100;exact au (aa bJ rfl) rfl
     constructor
     ·rintro-w101 D101;rintro _ rfl;exact au (ar ak rfl (by exact (show _=some (Value.int .i64 m.ix) from (hm3.from_ (((ag.rfl_.next D19).next D93).next D101)).rd 4 rfl))) rfl
     constructor
     ·rintro-w102 D102;rintro v102_52 rfl v102_54 rfl;exact au (dm rfl rfl) rfl
     exact trivial
    case hend=>
     intro w103 D103;rintro _ rfl _ rfl _ rfl _ rfl v52 rfl _ rfl v54 rfl _ rfl;show St ..;refine an (ai (aS rfl (fun Q104=>?_) (fun Q104=>?_)))
     ·replace Q104:=dK Q104;replace Q104:=ec Q104;have hpm:s.partOf≠m.ix:=by simpa using Q104
      refine ao (ah (mvp rfl (ab (aa bJ rfl) (ab (ar ak rfl (by exact (show _=some (Value.int .i64 m.ix) from (hm3.from_ (((ag.rfl_.next D19).next D93).next D103)).rd 4 rfl))) ?_))));refine ab (av rfl) (ab (aa aN rfl) (ab (aa cA rfl) (dU (s':=({ s with partOf:=m.ix }:Rf)) bc rfl rfl rfl (h3.from_ (((ag.rfl_.next D19).next D93).next D103)) (fun _=>⟨by decide,rfl⟩) ⟨rfl,rfl,rfl,rfl,rfl,rfl⟩ ?_)));intro w105 h4;refine an (ai (ah (mvp rfl (ab (av rfl) (ab (aa aN rfl) (ab (aa bw rfl) (dU (s':=({ s with partOf:=m.ix,part:=⟨#[]⟩ }:Rf)) ep rfl rfl rfl (h4.from_ ag.rfl_) (fun _=>⟨by decide,rfl⟩) ⟨rfl,rfl,rfl,rfl,rfl,rfl⟩ ?_)))))));intro w106 h5;refine an ?_;refine bL ({ s with partOf:=m.ix,part:=⟨#[]⟩ }) trivial (by (iterate 18 refine bd rfl ?_);exact br) ?_
      first
       |exact ⟨(yE hpm).symm,Nat.zero_le _,h5.from_ ag.rfl_⟩
       |exact ⟨(yF hpm).symm,hpa,h3.from_ ag.rfl_⟩
     replace Q104:=dL Q104;replace Q104:=eb Q104;have hpm:s.partOf=m.ix:=by simpa using Q104
     refine aO ?_;refine bL (s) trivial (by (iterate 8 refine bd rfl ?_);exact br) ?_
     first
      |exact ⟨(yE hpm).symm,Nat.zero_le _,h5.from_ (((ag.rfl_.next D19).next D93).next D103)⟩
      |exact ⟨(yF hpm).symm,hpa,h3.from_ (((ag.rfl_.next D19).next D93).next D103)⟩
   rintro p8 ρ107 w107 ⟨hp8,hpz,h6⟩;refine e_ (G:=Bool) [66,67,68,69,70,71,72,73,74,75,76,77,78,79,80,81,82,83,84,85,86,87] (fun b=>[(6,.bool b)]) (fun b w'=>b=gC p8 m∧aR wm Z7 w' T g ⟨p8,[]⟩) ?_ ?_
   ·rcases oT p8 m with hf1 | ⟨hf1,hf2⟩ | ⟨hf1,hf2⟩
    ·have hfb:gC p8 m=false:=xJ hf1;apply bK 23 [(66,eqp _),(67,eqp (.int .i64 m.a)),(68,eqp _),(69,eqp _),(70,eqp _),(71,eqp _),(72,eqp (.string p8.part)),(73,eqp _),(74,eqp _),(75,eqp _),(76,eqp _),(77,eqp _),(78,eqp _),(79,eqp _),(80,eqp _),(81,eqp _),(82,eqp _),(83,eqp _),(84,eqp _),(85,eqp _),(86,eqp _),(87,eqp _),(6,eqp _)] (by repeat first | exact ct | refine cr ?_ | refine bX ?_) (by kernel_rfl) (by kernel_rfl) ⟨aj _,aj _,aj _,aj _,aj _,aj _,aj _,aj _,aj _,aj _,aj _,aj _,aj _,aj _,aj _,aj _,aj _,aj _,aj _,aj _,aj _,aj _,aj _,trivial⟩
     case hop=>
      constructor
      ·rintro-w109 D109;exact au (aa cF rfl) rfl
      constructor
      ·rintro-w110 D110;rintro _ rfl;exact au (ar ak rfl (by exact (show _=some (Value.int .i64 m.a) from ((h6.kept hzb hm9).from_ (ag.rfl_.next D110)).rd 10 rfl))) rfl
      constructor
      ·rintro-w111 D111;exact au (aF (v:=.pointer _) rfl) rfl
      constructor
      ·rintro-w112 D112;rintro _ rfl;exact au (av rfl) rfl
      constructor
      ·rintro-w113 D113;rintro _ rfl;exact au (aa aN rfl) rfl
      constructor
      ·rintro-w114 D114;rintro _ rfl;exact au (aa bw rfl) rfl
      constructor
      ·rintro-w115 D115;rintro _ rfl;exact au (ar bF rfl (by exact (show _=some (Value.string p8.part) from (h6.from_ (ag.rfl_.next D115)).rd (fun _=>rfl)))) rfl
      constructor
      ·rintro-w116 D116;rintro v116_72 rfl;exact au (df (by kernel_rfl) rfl) rfl
      constructor
      ·rintro-w117 D117;rintro v117_67 rfl _ rfl;exact au (cu (bf rfl rfl) (beq_eq_false_iff_ne.2 hf1)) rfl
      constructor
      ·rintro-w118 D118;rintro _ rfl;exact au (aF (v:=.bool _) rfl) rfl
      constructor
      ·rintro-w119 D119;rintro _ rfl;exact ck rfl rfl rfl
      constructor
      ·rintro-w120 D120;rintro _ rfl _ rfl;exact ck rfl rfl rfl
      constructor
      ·rintro-w121 D121;rintro _ rfl _ rfl;exact ck rfl rfl rfl
      constructor
      ·rintro-w122 D122;rintro _ rfl;exact ck rfl rfl rfl
      constructor
      ·rintro-w123 D123;rintro _ rfl _ rfl;exact ck rfl rfl rfl
      constructor
      ·rintro-w124 D124;rintro _ rfl _ rfl;exact ck rfl rfl rfl
      constructor
      ·rintro-w125 D125;rintro _ rfl _ rfl;exact ck rfl rfl rfl
      constructor
      ·rintro-w126 D126;rintro _ rfl _ rfl;exact ck rfl rfl rfl
      constructor
      ·rintro-w127 D127;rintro _ rfl _ rfl;exact ck rfl rfl rfl
      constructor
      ·rintro-w128 D128;rintro _ rfl _ rfl;exact ck rfl rfl rfl
      constructor
      ·rintro-w129 D129;rintro _ rfl _ rfl _ rfl;exact ck rfl rfl rfl
      constructor
      ·rintro-w130 D130;rintro _ rfl _ rfl;exact au (ay (v:=.bool _) rfl rfl) rfl
      constructor
      ·rintro-w131 D131;rintro _ rfl;exact au (cZ (v:=.bool _) rfl) rfl
      exact trivial
     case hend=>
      intro w132 D132;rintro _ rfl v67 rfl _ rfl _ rfl _ rfl _ rfl v72 rfl _ rfl _ rfl _ rfl _ rfl _ rfl _ rfl _ rfl _ rfl _ rfl _ rfl _ rfl _ rfl _ rfl _ rfl _ rfl _ rfl;show St ..;refine an ?_;refine bL (_) ⟨rfl,trivial⟩ (by (iterate 23 refine bd rfl ?_);exact br) ?_;exact ⟨hfb.symm,h6.from_ (ag.rfl_.next D132)⟩
    ·have hfb:gC p8 m=false:=xI hf2;have hf3:¬ ((m.d.size:Int)≤524288-(p8.part.size:Int)):=by omega
     apply bK 23 [(66,eqp _),(67,eqp (.int .i64 m.a)),(68,eqp _),(69,eqp _),(70,eqp _),(71,eqp _),(72,eqp (.string p8.part)),(73,eqp _),(74,eqp _),(75,eqp _),(76,eqp _),(77,eqp (.string m.d)),(78,eqp _),(79,eqp _),(80,eqp _),(81,eqp _),(82,eqp _),(83,eqp (.string p8.part)),(84,eqp _),(85,eqp (.int .i64 (524288-(p8.part.size:Int)))),(86,eqp _),(87,eqp _),(6,eqp _)] (by repeat first | exact ct | refine cr ?_ | refine bX ?_) (by kernel_rfl) (by kernel_rfl) ⟨aj _,aj _,aj _,aj _,aj _,aj _,aj _,aj _,aj _,aj _,aj _,aj _,aj _,aj _,aj _,aj _,aj _,aj _,aj _,aj _,aj _,aj _,aj _,trivial⟩
     case hop=>
      constructor
      ·rintro-w134 D134;exact au (aa cF rfl) rfl
      constructor
      ·rintro-w135 D135;rintro _ rfl;exact au (ar ak rfl (by exact (show _=some (Value.int .i64 m.a) from ((h6.kept hzb hm9).from_ (ag.rfl_.next D135)).rd 10 rfl))) rfl
      constructor
      ·rintro-w136 D136;exact au (aF (v:=.pointer _) rfl) rfl
      constructor
      ·rintro-w137 D137;rintro _ rfl;exact au (av rfl) rfl
      constructor
      ·rintro-w138 D138;rintro _ rfl;exact au (aa aN rfl) rfl
      constructor
      ·rintro-w139 D139;rintro _ rfl;exact au (aa bw rfl) rfl
      constructor
      ·rintro-w140 D140;rintro _ rfl;exact au (ar bF rfl (by exact (show _=some (Value.string p8.part) from (h6.from_ (ag.rfl_.next D140)).rd (fun _=>rfl)))) rfl
      constructor
      ·rintro-w141 D141;rintro v141_72 rfl;exact au (df (by kernel_rfl) rfl) rfl
      constructor
      ·rintro-w142 D142;rintro v142_67 rfl _ rfl;exact au (c6 (bf rfl rfl) (beq_iff_eq.2 hf1)) rfl
      constructor
      ·rintro-w143 D143;rintro _ rfl;exact au (aF (v:=.bool _) rfl) rfl
      constructor
      ·rintro-w144 D144;rintro _ rfl;exact aL rfl (aa dC rfl) rfl
      constructor
      ·rintro-w145 D145;rintro _ rfl _ rfl;exact aL rfl (ar bF rfl (by exact (show _=some (Value.string m.d) from ((h6.kept hzb hm9).from_ (ag.rfl_.next D145)).rd 11 rfl))) rfl
      constructor
      ·rintro-w146 D146;rintro _ rfl v146_77 rfl;exact aL rfl (df (by kernel_rfl) rfl) rfl
      constructor
      ·rintro-w147 D147;rintro _ rfl;exact aL rfl (aF (v:=.pointer _) rfl) rfl
      constructor
      ·rintro-w148 D148;rintro _ rfl _ rfl;exact aL rfl (av rfl) rfl
      constructor
      ·rintro-w149 D149;rintro _ rfl _ rfl;exact aL rfl (aa aN rfl) rfl
      constructor
      ·rintro-w150 D150;rintro _ rfl _ rfl;exact aL rfl (aa bw rfl) rfl
      constructor
      ·rintro-w151 D151;rintro _ rfl _ rfl;exact aL rfl (ar bF rfl (by exact (show _=some (Value.string p8.part) from (h6.from_ (ag.rfl_.next D151)).rd (fun _=>rfl)))) rfl
      constructor
      ·rintro-w152 D152;rintro _ rfl v152_83 rfl;exact aL rfl (df (by kernel_rfl) rfl) rfl
      constructor
      ·rintro-w153 D153;rintro _ rfl _ rfl;exact aL rfl (eJ rfl rfl (by omega)) rfl
      constructor
      ·rintro-w154 D154;rintro _ rfl _ rfl v154_85 rfl;exact aL rfl (cu (eT rfl rfl) (decide_eq_false hf3)) rfl
      constructor
      ·rintro-w155 D155;rintro _ rfl _ rfl;exact au (aM (v:=.bool _) rfl rfl) rfl
      constructor
      ·rintro-w156 D156;rintro _ rfl;exact au (cZ (v:=.bool _) rfl) rfl
      exact trivial
     case hend=>
      intro w157 D157;rintro _ rfl v67 rfl _ rfl _ rfl _ rfl _ rfl v72 rfl _ rfl _ rfl _ rfl _ rfl v77 rfl _ rfl _ rfl _ rfl _ rfl _ rfl v83 rfl _ rfl v85 rfl _ rfl _ rfl _ rfl;show St ..;refine an ?_;refine bL (_) ⟨rfl,trivial⟩ (by (iterate 23 refine bd rfl ?_);exact br) ?_;exact ⟨hfb.symm,h6.from_ (ag.rfl_.next D157)⟩
    have hfb:gC p8 m=true:=xH hf1 hf2;have hf3:(m.d.size:Int)≤524288-(p8.part.size:Int):=by omega
    apply bK 23 [(66,eqp _),(67,eqp (.int .i64 m.a)),(68,eqp _),(69,eqp _),(70,eqp _),(71,eqp _),(72,eqp (.string p8.part)),(73,eqp _),(74,eqp _),(75,eqp _),(76,eqp _),(77,eqp (.string m.d)),(78,eqp _),(79,eqp _),(80,eqp _),(81,eqp _),(82,eqp _),(83,eqp (.string p8.part)),(84,eqp _),(85,eqp (.int .i64 (524288-(p8.part.size:Int)))),(86,eqp _),(87,eqp _),(6,eqp _)] (by repeat first | exact ct | refine cr ?_ | refine bX ?_) (by kernel_rfl) (by kernel_rfl) ⟨aj _,aj _,aj _,aj _,aj _,aj _,aj _,aj _,aj _,aj _,aj _,aj _,aj _,aj _,aj _,aj _,aj _,aj _,aj _,aj _,aj _,aj _,aj _,trivial⟩
    case hop=>
     constructor
     ·rintro-w159 D159;exact au (aa cF rfl) rfl
     constructor
     ·rintro-w160 D160;rintro _ rfl;exact au (ar ak rfl (by exact (show _=some (Value.int .i64 m.a) from ((h6.kept hzb hm9).from_ (ag.rfl_.next D160)).rd 10 rfl))) rfl
     constructor
     ·rintro-w161 D161;exact au (aF (v:=.pointer _) rfl) rfl
     constructor
     ·rintro-w162 D162;rintro _ rfl;exact au (av rfl) rfl
     constructor
     ·rintro-w163 D163;rintro _ rfl;exact au (aa aN rfl) rfl
     constructor
     ·rintro-w164 D164;rintro _ rfl;exact au (aa bw rfl) rfl
     constructor
     ·rintro-w165 D165;rintro _ rfl;exact au (ar bF rfl (by exact (show _=some (Value.string p8.part) from (h6.from_ (ag.rfl_.next D165)).rd (fun _=>rfl)))) rfl
     constructor
     ·rintro-w166 D166;rintro v166_72 rfl;exact au (df (by kernel_rfl) rfl) rfl
     constructor
     ·rintro-w167 D167;rintro v167_67 rfl _ rfl;exact au (c6 (bf rfl rfl) (beq_iff_eq.2 hf1)) rfl
     constructor
     ·rintro-w168 D168;rintro _ rfl;exact au (aF (v:=.bool _) rfl) rfl
     constructor
     ·rintro-w169 D169;rintro _ rfl;exact aL rfl (aa dC rfl) rfl
     constructor
     ·rintro-w170 D170;rintro _ rfl _ rfl;exact aL rfl (ar bF rfl (by exact (show _=some (Value.string m.d) from ((h6.kept hzb hm9).from_ (ag.rfl_.next D170)).rd 11 rfl))) rfl
     constructor
     ·rintro-w171 D171;rintro _ rfl v171_77 rfl;exact aL rfl (df (by kernel_rfl) rfl) rfl
     constructor
     ·rintro-w172 D172;rintro _ rfl;exact aL rfl (aF (v:=.pointer _) rfl) rfl
     constructor
     ·rintro-w173 D173;rintro _ rfl _ rfl;exact aL rfl (av rfl) rfl
     constructor
     ·rintro-w174 D174;rintro _ rfl _ rfl;exact aL rfl (aa aN rfl) rfl
     constructor
     ·rintro-w175 D175;rintro _ rfl _ rfl;exact aL rfl (aa bw rfl) rfl
     constructor
     ·rintro-w176 D176;rintro _ rfl _ rfl;exact aL rfl (ar bF rfl (by exact (show _=some (Value.string p8.part) from (h6.from_ (ag.rfl_.next D176)).rd (fun _=>rfl)))) rfl
     constructor
     ·rintro-w177 D177;rintro _ rfl v177_83 rfl;exact aL rfl (df (by kernel_rfl) rfl) rfl
     constructor
     ·rintro-w178 D178;rintro _ rfl _ rfl;exact aL rfl (eJ rfl rfl (by omega)) rfl
     constructor
     ·rintro-w179 D179;rintro _ rfl _ rfl v179_85 rfl;exact aL rfl (c6 (eT rfl rfl) (decide_eq_true hf3)) rfl
     constructor
     ·rintro-w180 D180;rintro _ rfl _ rfl;exact au (aM (v:=.bool _) rfl rfl) rfl
     constructor
     ·rintro-w181 D181;rintro _ rfl;exact au (cZ (v:=.bool _) rfl) rfl
     exact trivial
    case hend=>
     intro w182 D182;rintro _ rfl v67 rfl _ rfl _ rfl _ rfl _ rfl v72 rfl _ rfl _ rfl _ rfl _ rfl v77 rfl _ rfl _ rfl _ rfl _ rfl _ rfl v83 rfl _ rfl v85 rfl _ rfl _ rfl _ rfl;show St ..;refine an ?_;refine bL (_) ⟨rfl,trivial⟩ (by (iterate 23 refine bd rfl ?_);exact br) ?_;exact ⟨hfb.symm,h6.from_ (ag.rfl_.next D182)⟩
   rintro fb ρ183 w183 ⟨hfb,h7⟩;refine e_ (G:=Rf) [88,89,90,91,92,93,94,95,96,97,98,99,100] (fun _=>[(6,.bool fb)]) (fun u8 w'=>u8=qR p8 m fb∧aR wm Z7 w' T g ⟨u8,[]⟩) ?_ ?_
   ·refine ao (ah (mvb rfl (an (ai (aS rfl (fun Q184=>?_) (fun Q184=>?_))))))
    ·apply bK 9 [(89,eqp _),(90,eqp _),(91,eqp _),(92,eqp _),(93,eqp _),(94,eqp (.string p8.part)),(95,eqp _),(96,eqp (.string m.d)),(97,eqp (.string (p8.part++m.d)))] (by repeat first | exact ct | refine cr ?_ | refine bX ?_) (by kernel_rfl) (by kernel_rfl) ⟨aj _,aj _,aj _,aj _,aj _,aj _,aj _,aj _,aj _,trivial⟩
     case hop=>
      constructor
      ·rintro-w186 D186;exact au (aF (v:=.pointer _) rfl) rfl
      constructor
      ·rintro-w187 D187;exact au (aF (v:=.pointer _) rfl) rfl
      constructor
      ·rintro-w188 D188;rintro _ rfl;exact au (av rfl) rfl
      constructor
      ·rintro-w189 D189;rintro _ rfl;exact au (aa aN rfl) rfl
      constructor
      ·rintro-w190 D190;rintro _ rfl;exact au (aa bw rfl) rfl
      constructor
      ·rintro-w191 D191;rintro _ rfl;exact au (ar bF rfl (by exact (show _=some (Value.string p8.part) from (h7.from_ (ag.rfl_.next D191)).rd (fun _=>rfl)))) rfl
      constructor
      ·rintro-w192 D192;exact au (aa dC rfl) rfl
      constructor
      ·rintro-w193 D193;rintro _ rfl;exact au (ar bF rfl (by exact (show _=some (Value.string m.d) from ((h7.kept hzb hm9).from_ (ag.rfl_.next D193)).rd 11 rfl))) rfl
      constructor
      ·rintro-w194 D194;rintro v194_94 rfl v194_96 rfl;exact au (uF rfl rfl (by omega)) rfl
      exact trivial
     case hend=>
      intro w195 D195;rintro _ rfl _ rfl _ rfl _ rfl _ rfl v94 rfl _ rfl v96 rfl v97 rfl;show St ..;refine ab (av rfl) (ab (aa aN rfl) (ab (aa bw rfl) (dU (s':=({ p8 with part:=p8.part++m.d }:Rf)) ep rfl rfl rfl (h7.from_ (ag.rfl_.next D195)) (fun _=>⟨by decide,rfl⟩) ⟨rfl,rfl,rfl,rfl,rfl,rfl⟩ ?_)));intro w196 h8;refine an ?_;refine bL ({ p8 with part:=p8.part++m.d }) ⟨rfl,trivial⟩ (by (iterate 13 refine bd rfl ?_);exact br) ?_
      first
       |(subst_vars;exact ⟨by simp_all [qR],h8.from_ ag.rfl_⟩)
       |(subst_vars;exact ⟨by simp_all [qR],h7.from_ ag.rfl_⟩)
    refine aO ?_;refine bL (p8) ⟨rfl,trivial⟩ (by (iterate 1 refine bd rfl ?_);exact br) ?_
    first
     |(subst_vars;exact ⟨by simp_all [qR],h8.from_ ag.rfl_⟩)
     |(subst_vars;exact ⟨by simp_all [qR],h7.from_ ag.rfl_⟩)
   rintro u8 ρ197 w197 ⟨hu8,h9⟩;obtain ⟨tgU,aU,OU,ocU,LU,hsU⟩:=h9.ex;have heU:=(bo.rd hsU.f).e;obtain rfl:=hsU.nilL;have hq8:=wN p8 m fb;have hp9:=wP s m;rw [←hu8] at hq8;rw [←hp8] at hp9;have hmU:cj u8.b u8.t u8.es=true:=by rw [hq8.1,hq8.2.1,hq8.2.2.1,hp9.1,hp9.2.1,hp9.2.2.1];exact hm
   have hlU:dh u8.b u8.es=bm u8:=rfl;have hbU:u8.b=s.b:=by rw [hq8.1,hp9.1]
   refine ao (ao (ah (mvb rfl (ab (cp rfl) (mvb rfl (An (t:=103) rfl (fun Q198=>?_) (fun Q198=>?_)))))))
   ·refine aq rfl rfl (aq rfl rfl (aq rfl rfl (ab (aM (v:=.bool _) rfl rfl) (an (ai (aZ rfl (ao ?_)))))));apply fA [(0,108,fun _ v _=>v=_),(1,109,fun _ v _=>v=_),(2,110,fun S v w9=>S 14=false→(eqp (.int .i64 m.f)) v w9),(3,111,fun _ v _=>v=_),(4,112,fun S v w9=>S 14=false→(eqp (.int .i64 m.ix)) v w9),(5,113,fun _ v _=>v=_),(6,114,fun _ v _=>v=_),(7,115,fun _ v _=>v=_),(8,116,fun _ v _=>v=_),(9,117,fun S v w9=>S 14=false→(eqp (.string u8.part)) v w9),(10,118,fun _ v _=>v=_),(11,119,fun _ v _=>v=_),(12,120,fun S v w9=>S 14=false→(eqp (.int .i64 m.rd)) v w9),(13,121,fun S v w9=>S 14=false→(eqp (.agg (bC ({ zM with k:=6,t:=m.f,ix:=m.ix,a:=(u8.part.size:Int),rd:=m.rd }:Msg)).toArray)) v w9),(14,122,fun _ v _=>v=_)] [14] (fun S w'=>(S 14=false→ag w197 w')∧(S 14=true→aR wm Z7 w' T g (Sp.tell ⟨u8,[]⟩ ({ zM with k:=6,t:=m.f,ix:=m.ix,a:=(u8.part.size:Int),rd:=m.rd }:Msg)))) (by kernel_rfl) (by kernel_rfl) rfl rfl ⟨fun _ _ _ _ _ _ _ h=>h,fun _ _ _ _ _ _ _ h=>h,fun S i v w1 w2 hq hF h h0=>(aj _) v w1 w2 hF (h (dY h0)),fun _ _ _ _ _ _ _ h=>h,fun S i v w1 w2 hq hF h h0=>(aj _) v w1 w2 hF (h (dY h0)),fun _ _ _ _ _ _ _ h=>h,fun _ _ _ _ _ _ _ h=>h,fun _ _ _ _ _ _ _ h=>h,fun _ _ _ _ _ _ _ h=>h,fun S i v w1 w2 hq hF h h0=>(aj _) v w1 w2 hF (h (dY h0)),fun _ _ _ _ _ _ _ h=>h,fun _ _ _ _ _ _ _ h=>h,fun S i v w1 w2 hq hF h h0=>(aj _) v w1 w2 hF (h (dY h0)),fun S i v w1 w2 hq hF h h0=>(aj _) v w1 w2 hF (h (dY h0)),fun _ _ _ _ _ _ _ h=>h,trivial⟩ (fun S i w1 w2 hq hF h=>⟨fun h0=>(h.1 (dY h0)).next hF,fun h1=>(fun h=>h.from_ hF) (h.2 (jr (show 14≠i by rintro rfl;exact absurd hq (by decide)) h1))⟩) ⟨fun _=>ag.rfl_.d1,fun h=>by cases h⟩
    case hstep=>
     constructor
     ·rintro S L' w199 hU hmo hme hI hM hC hS ⟨-⟩;have hS0:S 14=false:=(af hC (j:=14) rfl (by kernel_rfl) hS);have hM199:=hM.1 hS0;have e0:=hI.1 0 (dv rfl);exact az [(0,_)] hU hmo hme hI hM (.head _) rfl rfl (by kernel_rfl) ⟨e0,trivial⟩ (aF (v:=.pointer _) rfl) ag.rfl_ (rfl)
     constructor
     ·rintro S L' w200 hU hmo hme hI hM hC hS ⟨-⟩;have hS0:S 14=false:=(af hC (j:=14) rfl (by kernel_rfl) (af hC (j:=13) rfl (by kernel_rfl) (af hC (j:=2) rfl (by kernel_rfl) hS)));have hM200:=hM.1 hS0;have e3:=hI.1 3 (dv rfl);exact az [(3,_)] hU hmo hme hI hM (.tail _ (.head _)) rfl rfl (by kernel_rfl) ⟨e3,trivial⟩ (aa bY rfl) ag.rfl_ (rfl)
     constructor
     ·rintro S L' w201 hU hmo hme hI hM hC hS ⟨d1,-⟩;have hS0:S 14=false:=(af hC (j:=14) rfl (by kernel_rfl) (af hC (j:=13) rfl (by kernel_rfl) hS));have hM201:=hM.1 hS0;obtain ⟨v201_109,e109,h109⟩:=hI.get (i:=1) (.tail _ (.head _)) d1;obtain rfl:=h109;exact az [(109,_)] hU hmo hme hI hM (gM 2 rfl) rfl rfl (by kernel_rfl) ⟨e109,trivial⟩ (ar ak rfl (by exact (show _=some (Value.int .i64 m.f) from ((h9.kept hzb hm9).from_ (ag.rfl_.next hM201)).rd 1 rfl))) ag.rfl_ (fun _=>rfl)
     constructor
     ·rintro S L' w202 hU hmo hme hI hM hC hS ⟨-⟩;have hS0:S 14=false:=(af hC (j:=14) rfl (by kernel_rfl) (af hC (j:=13) rfl (by kernel_rfl) (af hC (j:=4) rfl (by kernel_rfl) hS)));have hM202:=hM.1 hS0;have e3:=hI.1 3 (dv rfl);exact az [(3,_)] hU hmo hme hI hM (gM 3 rfl) rfl rfl (by kernel_rfl) ⟨e3,trivial⟩ (aa bJ rfl) ag.rfl_ (rfl)
     constructor
     ·rintro S L' w203 hU hmo hme hI hM hC hS ⟨d3,-⟩;have hS0:S 14=false:=(af hC (j:=14) rfl (by kernel_rfl) (af hC (j:=13) rfl (by kernel_rfl) hS));have hM203:=hM.1 hS0;obtain ⟨v203_111,e111,h111⟩:=hI.get (i:=3) (gM 3 rfl) d3;obtain rfl:=h111;exact az [(111,_)] hU hmo hme hI hM (gM 4 rfl) rfl rfl (by kernel_rfl) ⟨e111,trivial⟩ (ar ak rfl (by exact (show _=some (Value.int .i64 m.ix) from ((h9.kept hzb hm9).from_ (ag.rfl_.next hM203)).rd 4 rfl))) ag.rfl_ (fun _=>rfl)
     constructor
     ·rintro S L' w204 hU hmo hme hI hM hC hS ⟨-⟩;have hS0:S 14=false:=(af hC (j:=14) rfl (by kernel_rfl) (af hC (j:=13) rfl (by kernel_rfl) (af hC (j:=10) rfl (by kernel_rfl) (af hC (j:=9) rfl (by kernel_rfl) (af hC (j:=8) rfl (by kernel_rfl) (af hC (j:=7) rfl (by kernel_rfl) (af hC (j:=6) rfl (by kernel_rfl) hS)))))));have hM204:=hM.1 hS0;have e0:=hI.1 0 (dv rfl);exact az [(0,_)] hU hmo hme hI hM (gM 5 rfl) rfl rfl (by kernel_rfl) ⟨e0,trivial⟩ (aF (v:=.pointer _) rfl) ag.rfl_ (rfl)
     constructor
     ·rintro S L' w205 hU hmo hme hI hM hC hS ⟨d5,-⟩;have hS0:S 14=false:=(af hC (j:=14) rfl (by kernel_rfl) (af hC (j:=13) rfl (by kernel_rfl) (af hC (j:=10) rfl (by kernel_rfl) (af hC (j:=9) rfl (by kernel_rfl) (af hC (j:=8) rfl (by kernel_rfl) (af hC (j:=7) rfl (by kernel_rfl) hS))))));have hM205:=hM.1 hS0;obtain ⟨v205_113,e113,h113⟩:=hI.get (i:=5) (gM 5 rfl) d5;obtain rfl:=h113;exact az [(113,_)] hU hmo hme hI hM (gM 6 rfl) rfl rfl (by kernel_rfl) ⟨e113,trivial⟩ (av rfl) ag.rfl_ (rfl)
     constructor
     ·rintro S L' w206 hU hmo hme hI hM hC hS ⟨d6,-⟩;have hS0:S 14=false:=(af hC (j:=14) rfl (by kernel_rfl) (af hC (j:=13) rfl (by kernel_rfl) (af hC (j:=10) rfl (by kernel_rfl) (af hC (j:=9) rfl (by kernel_rfl) (af hC (j:=8) rfl (by kernel_rfl) hS)))));have hM206:=hM.1 hS0;obtain ⟨v206_114,e114,h114⟩:=hI.get (i:=6) (gM 6 rfl) d6;obtain rfl:=h114;exact az [(114,_)] hU hmo hme hI hM (gM 7 rfl) rfl rfl (by kernel_rfl) ⟨e114,trivial⟩ (aa aN rfl) ag.rfl_ (rfl)
     constructor
     ·rintro S L' w207 hU hmo hme hI hM hC hS ⟨d7,-⟩;have hS0:S 14=false:=(af hC (j:=14) rfl (by kernel_rfl) (af hC (j:=13) rfl (by kernel_rfl) (af hC (j:=10) rfl (by kernel_rfl) (af hC (j:=9) rfl (by kernel_rfl) hS))));have hM207:=hM.1 hS0;obtain ⟨v207_115,e115,h115⟩:=hI.get (i:=7) (gM 7 rfl) d7;obtain rfl:=h115;exact az [(115,_)] hU hmo hme hI hM (gM 8 rfl) rfl rfl (by kernel_rfl) ⟨e115,trivial⟩ (aa bw rfl) ag.rfl_ (rfl)
     constructor
     ·rintro S L' w208 hU hmo hme hI hM hC hS ⟨d8,-⟩;have hS0:S 14=false:=(af hC (j:=14) rfl (by kernel_rfl) (af hC (j:=13) rfl (by kernel_rfl) (af hC (j:=10) rfl (by kernel_rfl) hS)));have hM208:=hM.1 hS0;obtain ⟨v208_116,e116,h116⟩:=hI.get (i:=8) (gM 8 rfl) d8;obtain rfl:=h116;exact az [(116,_)] hU hmo hme hI hM (gM 9 rfl) rfl rfl (by kernel_rfl) ⟨e116,trivial⟩ (ar bF rfl (by exact (show _=some (Value.string u8.part) from (h9.from_ (ag.rfl_.next hM208)).rd (fun _=>rfl)))) ag.rfl_ (fun _=>rfl)
     constructor
     ·rintro S L' w209 hU hmo hme hI hM hC hS ⟨d9,-⟩;have hS0:S 14=false:=(af hC (j:=14) rfl (by kernel_rfl) (af hC (j:=13) rfl (by kernel_rfl) hS));have hM209:=hM.1 hS0;obtain ⟨v209_117,e117,h117⟩:=hI.get (i:=9) (gM 9 rfl) d9;obtain rfl:=h117 hS0;exact az [(117,_)] hU hmo hme hI hM (gM 10 rfl) rfl rfl (by kernel_rfl) ⟨e117,trivial⟩ (df (by kernel_rfl) rfl) ag.rfl_ (rfl)
     constructor
     ·rintro S L' w210 hU hmo hme hI hM hC hS ⟨-⟩;have hS0:S 14=false:=(af hC (j:=14) rfl (by kernel_rfl) (af hC (j:=13) rfl (by kernel_rfl) (af hC (j:=12) rfl (by kernel_rfl) hS)));have hM210:=hM.1 hS0;have e3:=hI.1 3 (dv rfl);exact az [(3,_)] hU hmo hme hI hM (gM 11 rfl) rfl rfl (by kernel_rfl) ⟨e3,trivial⟩ (aa dk rfl) ag.rfl_ (rfl)
     constructor
     ·rintro S L' w211 hU hmo hme hI hM hC hS ⟨d11,-⟩;have hS0:S 14=false:=(af hC (j:=14) rfl (by kernel_rfl) (af hC (j:=13) rfl (by kernel_rfl) hS));have hM211:=hM.1 hS0;obtain ⟨v211_119,e119,h119⟩:=hI.get (i:=11) (gM 11 rfl) d11;obtain rfl:=h119;exact az [(119,_)] hU hmo hme hI hM (gM 12 rfl) rfl rfl (by kernel_rfl) ⟨e119,trivial⟩ (ar ak rfl (by exact (show _=some (Value.int .i64 m.rd) from ((h9.kept hzb hm9).from_ (ag.rfl_.next hM211)).rd 7 rfl))) ag.rfl_ (fun _=>rfl)
     constructor
     ·rintro S L' w212 hU hmo hme hI hM hC hS ⟨d2,d4,d10,d12,-⟩;have hS0:S 14=false:=(af hC (j:=14) rfl (by kernel_rfl) hS);have hM212:=hM.1 hS0;obtain ⟨v212_110,e110,h110⟩:=hI.get (i:=2) (gM 2 rfl) d2;obtain rfl:=h110 hS0;obtain ⟨v212_112,e112,h112⟩:=hI.get (i:=4) (gM 4 rfl) d4;obtain rfl:=h112 hS0;obtain ⟨v212_118,e118,h118⟩:=hI.get (i:=10) (gM 10 rfl) d10;obtain rfl:=h118;obtain ⟨v212_120,e120,h120⟩:=hI.get (i:=12) (gM 12 rfl) d12;obtain rfl:=h120 hS0;exact az [(110,_),(112,_),(118,_),(120,_)] hU hmo hme hI hM (gM 13 rfl) rfl rfl (by kernel_rfl) ⟨e110,e112,e118,e120,trivial⟩ (cl (l:=[(0,.const (.int .i64 6)),(2,.tmp 110),(4,.tmp 112),(10,.tmp 118),(7,.tmp 120)]) (fH _ _ _ _)) ag.rfl_ (fun _=>rfl)
     constructor
     ·rintro S L' w213 hU hmo hme hI hM hC hS ⟨d0,d13,-⟩;have hS0:S 14=false:=hS;have hM213:=hM.1 hS0;obtain ⟨v213_108,e108,h108⟩:=hI.get (i:=0) (.head _) d0;obtain rfl:=h108;obtain ⟨v213_121,e121,h121⟩:=hI.get (i:=13) (gM 13 rfl) d13;obtain rfl:=h121 hS0;refine dV (al:=[.tmp 108,.tmp 121]) [(108,_),(121,_)] hU hI (gM 14 rfl) (by kernel_rfl) ⟨e108,e121,trivial⟩ fO ((gH wm Z7 T g ⟨u8,[]⟩ _ (h9.from_ (ag.rfl_.next hM213)) _ _ _ _ _ (hsU.from_ (ag.rfl_.next hM213)) (Nat.zero_le _) ({ zM with k:=6,t:=m.f,ix:=m.ix,a:=(u8.part.size:Int),rd:=m.rd }:Msg) ⟨du,Col.none⟩).mono ?_);rintro v9 w2 ⟨rfl,hS2⟩;exact ⟨⟨fun h0=>(by rw [dS] at h0;cases h0),fun _=>hS2⟩,rfl,⟨fun _ _ _ h=>h,fun _ _ _ h=>h,fun _ _ _ _ h0=>(by rw [dS] at h0;cases h0),fun _ _ _ h=>h,fun _ _ _ _ h0=>(by rw [dS] at h0;cases h0),fun _ _ _ h=>h,fun _ _ _ h=>h,fun _ _ _ h=>h,fun _ _ _ h=>h,fun _ _ _ _ h0=>(by rw [dS] at h0;cases h0),fun _ _ _ h=>h,fun _ _ _ h=>h,fun _ _ _ _ h0=>(by rw [dS] at h0;cases h0),fun _ _ _ _ h0=>(by rw [dS] at h0;cases h0),fun _ _ _ h=>h,trivial⟩⟩
     exact trivial
    case hend=>
     intro w214 hM;obtain hS9:=hM.2 rfl;rintro v214_108 rfl v214_109 rfl v214_110-v214_111 rfl v214_112-v214_113 rfl v214_114 rfl v214_115 rfl v214_116 rfl v214_117-v214_118 rfl v214_119 rfl v214_120-v214_121-v214_122 rfl;refine ef (ai (aE (aG (eg rfl ?_))));rw [htC] at hnew;rw [jL hnew,qK hp8 hfb hu8 (by cases fb <;> simp_all)];exact ⟨rfl,h.back hE3 (hS9.from_ ag.rfl_) hzi⟩
   refine ae rfl (ab (aa fp rfl) (ae rfl (ab (ar ft rfl (by exact (show _=some (Value.bool m.dn) from ((h9.kept hzb hm9).from_ ag.rfl_).rd 12 rfl))) ?_)));refine ae rfl (ab (cp rfl) (ab (ay (v:=.bool _) rfl rfl) (an (ai (AR rfl (fun Q215=>?_) (fun Q215=>?_))))))
   ·refine ao ?_;apply fA [(0,108,fun _ v _=>v=_),(1,109,fun _ v _=>v=_),(2,110,fun S v w9=>S 14=false→(eqp (.int .i64 m.f)) v w9),(3,111,fun _ v _=>v=_),(4,112,fun S v w9=>S 14=false→(eqp (.int .i64 m.ix)) v w9),(5,113,fun _ v _=>v=_),(6,114,fun _ v _=>v=_),(7,115,fun _ v _=>v=_),(8,116,fun _ v _=>v=_),(9,117,fun S v w9=>S 14=false→(eqp (.string u8.part)) v w9),(10,118,fun _ v _=>v=_),(11,119,fun _ v _=>v=_),(12,120,fun S v w9=>S 14=false→(eqp (.int .i64 m.rd)) v w9),(13,121,fun S v w9=>S 14=false→(eqp (.agg (bC ({ zM with k:=6,t:=m.f,ix:=m.ix,a:=(u8.part.size:Int),rd:=m.rd }:Msg)).toArray)) v w9),(14,122,fun _ v _=>v=_)] [14] (fun S w'=>(S 14=false→ag w197 w')∧(S 14=true→aR wm Z7 w' T g (Sp.tell ⟨u8,[]⟩ ({ zM with k:=6,t:=m.f,ix:=m.ix,a:=(u8.part.size:Int),rd:=m.rd }:Msg)))) (by kernel_rfl) (by kernel_rfl) rfl rfl ⟨fun _ _ _ _ _ _ _ h=>h,fun _ _ _ _ _ _ _ h=>h,fun S i v w1 w2 hq hF h h0=>(aj _) v w1 w2 hF (h (dY h0)),fun _ _ _ _ _ _ _ h=>h,fun S i v w1 w2 hq hF h h0=>(aj _) v w1 w2 hF (h (dY h0)),fun _ _ _ _ _ _ _ h=>h,fun _ _ _ _ _ _ _ h=>h,fun _ _ _ _ _ _ _ h=>h,fun _ _ _ _ _ _ _ h=>h,fun S i v w1 w2 hq hF h h0=>(aj _) v w1 w2 hF (h (dY h0)),fun _ _ _ _ _ _ _ h=>h,fun _ _ _ _ _ _ _ h=>h,fun S i v w1 w2 hq hF h h0=>(aj _) v w1 w2 hF (h (dY h0)),fun S i v w1 w2 hq hF h h0=>(aj _) v w1 w2 hF (h (dY h0)),fun _ _ _ _ _ _ _ h=>h,trivial⟩ (fun S i w1 w2 hq hF h=>⟨fun h0=>(h.1 (dY h0)).next hF,fun h1=>(fun h=>h.from_ hF) (h.2 (jr (show 14≠i by rintro rfl;exact absurd hq (by decide)) h1))⟩) ⟨fun _=>ag.rfl_.d1,fun h=>by cases h⟩
    case hstep=>
     constructor
     ·rintro S L' w216 hU hmo hme hI hM hC hS ⟨-⟩;have hS0:S 14=false:=(af hC (j:=14) rfl (by kernel_rfl) hS);have hM216:=hM.1 hS0;have e0:=hI.1 0 (dv rfl);exact az [(0,_)] hU hmo hme hI hM (.head _) rfl rfl (by kernel_rfl) ⟨e0,trivial⟩ (aF (v:=.pointer _) rfl) ag.rfl_ (rfl)
     constructor
     ·rintro S L' w217 hU hmo hme hI hM hC hS ⟨-⟩;have hS0:S 14=false:=(af hC (j:=14) rfl (by kernel_rfl) (af hC (j:=13) rfl (by kernel_rfl) (af hC (j:=2) rfl (by kernel_rfl) hS)));have hM217:=hM.1 hS0;have e3:=hI.1 3 (dv rfl);exact az [(3,_)] hU hmo hme hI hM (.tail _ (.head _)) rfl rfl (by kernel_rfl) ⟨e3,trivial⟩ (aa bY rfl) ag.rfl_ (rfl)
     constructor
     ·rintro S L' w218 hU hmo hme hI hM hC hS ⟨d1,-⟩;have hS0:S 14=false:=(af hC (j:=14) rfl (by kernel_rfl) (af hC (j:=13) rfl (by kernel_rfl) hS));have hM218:=hM.1 hS0;obtain ⟨v218_109,e109,h109⟩:=hI.get (i:=1) (.tail _ (.head _)) d1;obtain rfl:=h109;exact az [(109,_)] hU hmo hme hI hM (gM 2 rfl) rfl rfl (by kernel_rfl) ⟨e109,trivial⟩ (ar ak rfl (by exact (show _=some (Value.int .i64 m.f) from ((h9.kept hzb hm9).from_ (ag.rfl_.next hM218)).rd 1 rfl))) ag.rfl_ (fun _=>rfl)
     constructor
     ·rintro S L' w219 hU hmo hme hI hM hC hS ⟨-⟩;have hS0:S 14=false:=(af hC (j:=14) rfl (by kernel_rfl) (af hC (j:=13) rfl (by kernel_rfl) (af hC (j:=4) rfl (by kernel_rfl) hS)));have hM219:=hM.1 hS0;have e3:=hI.1 3 (dv rfl);exact az [(3,_)] hU hmo hme hI hM (gM 3 rfl) rfl rfl (by kernel_rfl) ⟨e3,trivial⟩ (aa bJ rfl) ag.rfl_ (rfl)
     constructor
     ·rintro S L' w220 hU hmo hme hI hM hC hS ⟨d3,-⟩;have hS0:S 14=false:=(af hC (j:=14) rfl (by kernel_rfl) (af hC (j:=13) rfl (by kernel_rfl) hS));have hM220:=hM.1 hS0;obtain ⟨v220_111,e111,h111⟩:=hI.get (i:=3) (gM 3 rfl) d3;obtain rfl:=h111;exact az [(111,_)] hU hmo hme hI hM (gM 4 rfl) rfl rfl (by kernel_rfl) ⟨e111,trivial⟩ (ar ak rfl (by exact (show _=some (Value.int .i64 m.ix) from ((h9.kept hzb hm9).from_ (ag.rfl_.next hM220)).rd 4 rfl))) ag.rfl_ (fun _=>rfl)
     constructor
     ·rintro S L' w221 hU hmo hme hI hM hC hS ⟨-⟩;have hS0:S 14=false:=(af hC (j:=14) rfl (by kernel_rfl) (af hC (j:=13) rfl (by kernel_rfl) (af hC (j:=10) rfl (by kernel_rfl) (af hC (j:=9) rfl (by kernel_rfl) (af hC (j:=8) rfl (by kernel_rfl) (af hC (j:=7) rfl (by kernel_rfl) (af hC (j:=6) rfl (by kernel_rfl) hS)))))));have hM221:=hM.1 hS0;have e0:=hI.1 0 (dv rfl);exact az [(0,_)] hU hmo hme hI hM (gM 5 rfl) rfl rfl (by kernel_rfl) ⟨e0,trivial⟩ (aF (v:=.pointer _) rfl) ag.rfl_ (rfl)
     constructor
     ·rintro S L' w222 hU hmo hme hI hM hC hS ⟨d5,-⟩;have hS0:S 14=false:=(af hC (j:=14) rfl (by kernel_rfl) (af hC (j:=13) rfl (by kernel_rfl) (af hC (j:=10) rfl (by kernel_rfl) (af hC (j:=9) rfl (by kernel_rfl) (af hC (j:=8) rfl (by kernel_rfl) (af hC (j:=7) rfl (by kernel_rfl) hS))))));have hM222:=hM.1 hS0;obtain ⟨v222_113,e113,h113⟩:=hI.get (i:=5) (gM 5 rfl) d5;obtain rfl:=h113;exact az [(113,_)] hU hmo hme hI hM (gM 6 rfl) rfl rfl (by kernel_rfl) ⟨e113,trivial⟩ (av rfl) ag.rfl_ (rfl)
     constructor
     ·rintro S L' w223 hU hmo hme hI hM hC hS ⟨d6,-⟩;have hS0:S 14=false:=(af hC (j:=14) rfl (by kernel_rfl) (af hC (j:=13) rfl (by kernel_rfl) (af hC (j:=10) rfl (by kernel_rfl) (af hC (j:=9) rfl (by kernel_rfl) (af hC (j:=8) rfl (by kernel_rfl) hS)))));have hM223:=hM.1 hS0;obtain ⟨v223_114,e114,h114⟩:=hI.get (i:=6) (gM 6 rfl) d6;obtain rfl:=h114;exact az [(114,_)] hU hmo hme hI hM (gM 7 rfl) rfl rfl (by kernel_rfl) ⟨e114,trivial⟩ (aa aN rfl) ag.rfl_ (rfl)
     constructor
     ·rintro S L' w224 hU hmo hme hI hM hC hS ⟨d7,-⟩;have hS0:S 14=false:=(af hC (j:=14) rfl (by kernel_rfl) (af hC (j:=13) rfl (by kernel_rfl) (af hC (j:=10) rfl (by kernel_rfl) (af hC (j:=9) rfl (by kernel_rfl) hS))));have hM224:=hM.1 hS0;obtain ⟨v224_115,e115,h115⟩:=hI.get (i:=7) (gM 7 rfl) d7;obtain rfl:=h115;exact az [(115,_)] hU hmo hme hI hM (gM 8 rfl) rfl rfl (by kernel_rfl) ⟨e115,trivial⟩ (aa bw rfl) ag.rfl_ (rfl)
     constructor
     ·rintro S L' w225 hU hmo hme hI hM hC hS ⟨d8,-⟩;have hS0:S 14=false:=(af hC (j:=14) rfl (by kernel_rfl) (af hC (j:=13) rfl (by kernel_rfl) (af hC (j:=10) rfl (by kernel_rfl) hS)));have hM225:=hM.1 hS0;obtain ⟨v225_116,e116,h116⟩:=hI.get (i:=8) (gM 8 rfl) d8;obtain rfl:=h116;exact az [(116,_)] hU hmo hme hI hM (gM 9 rfl) rfl rfl (by kernel_rfl) ⟨e116,trivial⟩ (ar bF rfl (by exact (show _=some (Value.string u8.part) from (h9.from_ (ag.rfl_.next hM225)).rd (fun _=>rfl)))) ag.rfl_ (fun _=>rfl)
     constructor
     ·rintro S L' w226 hU hmo hme hI hM hC hS ⟨d9,-⟩;have hS0:S 14=false:=(af hC (j:=14) rfl (by kernel_rfl) (af hC (j:=13) rfl (by kernel_rfl) hS));have hM226:=hM.1 hS0;obtain ⟨v226_117,e117,h117⟩:=hI.get (i:=9) (gM 9 rfl) d9;obtain rfl:=h117 hS0;exact az [(117,_)] hU hmo hme hI hM (gM 10 rfl) rfl rfl (by kernel_rfl) ⟨e117,trivial⟩ (df (by kernel_rfl) rfl) ag.rfl_ (rfl)
     constructor
     ·rintro S L' w227 hU hmo hme hI hM hC hS ⟨-⟩;have hS0:S 14=false:=(af hC (j:=14) rfl (by kernel_rfl) (af hC (j:=13) rfl (by kernel_rfl) (af hC (j:=12) rfl (by kernel_rfl) hS)));have hM227:=hM.1 hS0;have e3:=hI.1 3 (dv rfl);exact az [(3,_)] hU hmo hme hI hM (gM 11 rfl) rfl rfl (by kernel_rfl) ⟨e3,trivial⟩ (aa dk rfl) ag.rfl_ (rfl)
     constructor
     ·rintro S L' w228 hU hmo hme hI hM hC hS ⟨d11,-⟩;have hS0:S 14=false:=(af hC (j:=14) rfl (by kernel_rfl) (af hC (j:=13) rfl (by kernel_rfl) hS));have hM228:=hM.1 hS0;obtain ⟨v228_119,e119,h119⟩:=hI.get (i:=11) (gM 11 rfl) d11;obtain rfl:=h119;exact az [(119,_)] hU hmo hme hI hM (gM 12 rfl) rfl rfl (by kernel_rfl) ⟨e119,trivial⟩ (ar ak rfl (by exact (show _=some (Value.int .i64 m.rd) from ((h9.kept hzb hm9).from_ (ag.rfl_.next hM228)).rd 7 rfl))) ag.rfl_ (fun _=>rfl)
     constructor
     ·rintro S L' w229 hU hmo hme hI hM hC hS ⟨d2,d4,d10,d12,-⟩;have hS0:S 14=false:=(af hC (j:=14) rfl (by kernel_rfl) hS);have hM229:=hM.1 hS0;obtain ⟨v229_110,e110,h110⟩:=hI.get (i:=2) (gM 2 rfl) d2;obtain rfl:=h110 hS0;obtain ⟨v229_112,e112,h112⟩:=hI.get (i:=4) (gM 4 rfl) d4;obtain rfl:=h112 hS0;obtain ⟨v229_118,e118,h118⟩:=hI.get (i:=10) (gM 10 rfl) d10;obtain rfl:=h118;obtain ⟨v229_120,e120,h120⟩:=hI.get (i:=12) (gM 12 rfl) d12;obtain rfl:=h120 hS0;exact az [(110,_),(112,_),(118,_),(120,_)] hU hmo hme hI hM (gM 13 rfl) rfl rfl (by kernel_rfl) ⟨e110,e112,e118,e120,trivial⟩ (cl (l:=[(0,.const (.int .i64 6)),(2,.tmp 110),(4,.tmp 112),(10,.tmp 118),(7,.tmp 120)]) (fH _ _ _ _)) ag.rfl_ (fun _=>rfl)
     constructor
     ·rintro S L' w230 hU hmo hme hI hM hC hS ⟨d0,d13,-⟩;have hS0:S 14=false:=hS;have hM230:=hM.1 hS0;obtain ⟨v230_108,e108,h108⟩:=hI.get (i:=0) (.head _) d0;obtain rfl:=h108;obtain ⟨v230_121,e121,h121⟩:=hI.get (i:=13) (gM 13 rfl) d13;obtain rfl:=h121 hS0;refine dV (al:=[.tmp 108,.tmp 121]) [(108,_),(121,_)] hU hI (gM 14 rfl) (by kernel_rfl) ⟨e108,e121,trivial⟩ fO ((gH wm Z7 T g ⟨u8,[]⟩ _ (h9.from_ (ag.rfl_.next hM230)) _ _ _ _ _ (hsU.from_ (ag.rfl_.next hM230)) (Nat.zero_le _) ({ zM with k:=6,t:=m.f,ix:=m.ix,a:=(u8.part.size:Int),rd:=m.rd }:Msg) ⟨du,Col.none⟩).mono ?_);rintro v9 w2 ⟨rfl,hS2⟩;exact ⟨⟨fun h0=>(by rw [dS] at h0;cases h0),fun _=>hS2⟩,rfl,⟨fun _ _ _ h=>h,fun _ _ _ h=>h,fun _ _ _ _ h0=>(by rw [dS] at h0;cases h0),fun _ _ _ h=>h,fun _ _ _ _ h0=>(by rw [dS] at h0;cases h0),fun _ _ _ h=>h,fun _ _ _ h=>h,fun _ _ _ h=>h,fun _ _ _ h=>h,fun _ _ _ _ h0=>(by rw [dS] at h0;cases h0),fun _ _ _ h=>h,fun _ _ _ h=>h,fun _ _ _ _ h0=>(by rw [dS] at h0;cases h0),fun _ _ _ _ h0=>(by rw [dS] at h0;cases h0),fun _ _ _ h=>h,trivial⟩⟩
     exact trivial
    case hend=>
     intro w231 hM;obtain hS9:=hM.2 rfl;rintro v231_108 rfl v231_109 rfl v231_110-v231_111 rfl v231_112-v231_113 rfl v231_114 rfl v231_115 rfl v231_116 rfl v231_117-v231_118 rfl v231_119 rfl v231_120-v231_121-v231_122 rfl;refine ef (ai (aE (aG (eg rfl ?_))));rw [htC] at hnew;rw [jL hnew,qK hp8 hfb hu8 (by cases fb <;> simp_all)];exact ⟨rfl,h.back hE3 (hS9.from_ ag.rfl_) hzi⟩
   refine aO (ai (ao ?_));by_cases hin:m.ix≤bm u8
   ·obtain ⟨tt,htt⟩:∃ x,x=de u8.b u8.t u8.es m.ix:=⟨_,rfl⟩;have hv8:Aj u8 m.ix tt true:=.inl ⟨rfl,by omega,hin,htt⟩;apply bK 13 [(124,eqp _),(125,eqp _),(126,eqp _),(127,eqp _),(128,eqp (.agg #[.int .i64 u8.b,.int .i64 u8.t,.slice aU.E u8.es.length aU.Ec])),(129,eqp _),(130,eqp (.int .i64 m.ix)),(131,eqp (.tuple #[.int .i64 tt,.bool true])),(123,eqp (.tuple #[.int .i64 tt,.bool true])),(132,eqp _),(133,eqp _),(4,eqp _),(7,eqp _)] (by repeat first | exact ct | refine cr ?_ | refine bX ?_) (by kernel_rfl) (by kernel_rfl) ⟨aj _,aj _,aj _,aj _,aj _,aj _,aj _,aj _,aj _,aj _,aj _,aj _,aj _,trivial⟩
    case hop=>
     constructor
     ·rintro-w233 D233;exact au (aF (v:=.pointer _) rfl) rfl
     constructor
     ·rintro-w234 D234;rintro _ rfl;exact au (av rfl) rfl
     constructor
     ·rintro-w235 D235;rintro _ rfl;exact au (aa aN rfl) rfl
     constructor
     ·rintro-w236 D236;rintro _ rfl;exact au (aa bn rfl) rfl
     constructor
     ·rintro-w237 D237;rintro _ rfl;exact au (aH (cs:=[.int .i64 u8.b,.int .i64 u8.t,.slice aU.E u8.es.length aU.Ec]) bQ bh rfl (gW (hsU.b.from_ (ag.rfl_.next D237)))) rfl
     constructor
     ·rintro-w238 D238;exact au (aa bJ rfl) rfl
     constructor
     ·rintro-w239 D239;rintro _ rfl;exact au (ar ak rfl (by exact (show _=some (Value.int .i64 m.ix) from ((h9.kept hzb hm9).from_ (ag.rfl_.next D239)).rd 4 rfl))) rfl
     constructor
     ·rintro-w240 D240;rintro v240_128 rfl v240_130 rfl;refine fL iR ((rN u8 m.ix aU.E aU.Ec _ (heU.from_ (ag.rfl_.next D240)) hmU hv8).mono ?_);rintro v w9 ⟨rfl,hF9⟩;exact ⟨hF9,rfl⟩
     constructor
     ·rintro-w241 D241;rintro v241_131 rfl;exact au (aF (v:=.tuple _) rfl) rfl
     constructor
     ·rintro-w242 D242;rintro v242_123 rfl;exact au (a_ rfl rfl) rfl
     constructor
     ·rintro-w243 D243;rintro v243_123 rfl;exact au (a_ rfl rfl) rfl
     constructor
     ·rintro-w244 D244;rintro _ rfl;exact au (cZ (v:=.int _ _) rfl) rfl
     constructor
     ·rintro-w245 D245;rintro _ rfl;exact au (cZ (v:=.bool _) rfl) rfl
     exact trivial
    case hend=>
     intro w246 D246;rintro _ rfl _ rfl _ rfl _ rfl v128 rfl _ rfl v130 rfl v131 rfl v123 rfl _ rfl _ rfl _ rfl _ rfl;show St ..;refine an (ai (e_ (G:=Unit) [134,135,136,137,138,139,140,141,142,143,144,145,146,147,148,149,150,151,152,153,154,155,156,157,158,159,160,161] (fun _=>[]) (fun _ w'=>aR wm Z7 w' T g ⟨({ u8 with b:=m.ix,t:=m.lt,es:=(if iq u8 m.ix m.lt then u8.es.drop (m.ix-u8.b).toNat else []) }:Rf),[]⟩) ?_ ?_))
     ·refine ao (ah (mvb rfl (mvb rfl (aK (t:=135) rfl (fun Q247=>?_) (fun Q247=>?_)))));rotate_left
      ·exfalso;contradiction
      refine ae rfl (mvi rfl (ae rfl (ab (aa cG rfl) (ae rfl (ab (ar ak rfl (by exact (show _=some (Value.int .i64 m.lt) from ((h9.kept hzb hm9).from_ (ag.rfl_.next D246)).rd 5 rfl))) ?_)))));refine ae rfl (ab (bf rfl rfl) (ab (aM (v:=.bool _) rfl rfl) (an (ai (AS rfl (fun Q249=>?_) (fun Q249=>?_))))))
      ·skip
       have h9c:=h9.from_ (ag.rfl_.next D246);apply bK 12 [(141,eqp _),(142,eqp _),(143,eqp _),(144,eqp _),(145,eqp _),(146,eqp (.agg #[.int .i64 u8.b,.int .i64 u8.t,.slice aU.E u8.es.length aU.Ec])),(147,eqp _),(148,eqp (.int .i64 m.ix)),(149,fun v w'=>∃ A' c',v=.agg #[.int .i64 m.ix,.int .i64 (de u8.b u8.t u8.es m.ix),.slice A' (u8.es.drop (m.ix-u8.b).toNat).length c']∧w'.ownsRow (w246).heap.size 99 3 (.slice A' (u8.es.drop (m.ix-u8.b).toNat).length c') (u8.es.drop (m.ix-u8.b).toNat).length (dT (u8.es.drop (m.ix-u8.b).toNat))),(150,eqp _),(151,eqp _),(152,eqp _)] (by repeat first | exact ct | refine cr ?_ | refine bX ?_) (by kernel_rfl) (by kernel_rfl) ⟨aj _,aj _,aj _,aj _,aj _,aj _,aj _,aj _,(fun _ _ _ hF ⟨a,b,h1,h2⟩=>⟨a,b,h1,h2.kept_from hF⟩),aj _,aj _,aj _,trivial⟩
       case hop=>
        constructor
        ·rintro-w251 D251;exact au (aF (v:=.pointer _) rfl) rfl
        constructor
        ·rintro-w252 D252;exact au (aF (v:=.pointer _) rfl) rfl
        constructor
        ·rintro-w253 D253;rintro _ rfl;exact au (av rfl) rfl
        constructor
        ·rintro-w254 D254;rintro _ rfl;exact au (aa aN rfl) rfl
        constructor
        ·rintro-w255 D255;rintro _ rfl;exact au (aa bn rfl) rfl
        constructor
        ·rintro-w256 D256;rintro _ rfl;exact au (aH (cs:=[.int .i64 u8.b,.int .i64 u8.t,.slice aU.E u8.es.length aU.Ec]) bQ bh rfl (gW (hsU.b.from_ ((ag.rfl_.next D246).next D256)))) rfl
        constructor
        ·rintro-w257 D257;exact au (aa bJ rfl) rfl
        constructor
        ·rintro-w258 D258;rintro _ rfl;exact au (ar ak rfl (by exact (show _=some (Value.int .i64 m.ix) from ((h9.kept hzb hm9).from_ ((ag.rfl_.next D246).next D258)).rd 4 rfl))) rfl
        constructor
        ·rintro-w259 D259;rintro v259_146 rfl v259_148 rfl;refine fL ud ((rO u8 m.ix aU.E aU.Ec _ (heU.from_ ((ag.rfl_.next D246).next D259)) hmU ⟨by omega,hin⟩).mono ?_);rintro v w9 ⟨⟨a,b,rfl,ho⟩,hF9⟩;exact ⟨hF9,a,b,rfl,dW ho D259.size⟩
        constructor
        ·rintro-w260 D260;rintro _ rfl;exact au (av rfl) rfl
        constructor
        ·rintro-w261 D261;rintro _ rfl;exact au (aa aN rfl) rfl
        constructor
        ·rintro-w262 D262;rintro _ rfl;exact au (aa bn rfl) rfl
        exact trivial
       case hend=>
        intro w263 D263;rintro _ rfl _ rfl _ rfl _ rfl _ rfl v146 rfl _ rfl v148 rfl v149 ⟨A149,c149,rfl,ho149⟩ _ rfl _ rfl _ rfl;show St ..;have hD14:=D263;have hk9:iq u8 m.ix m.lt=true:=nU hin (by omega);refine lE (b:=m.ix) (t9:=m.lt) (es:=u8.es.drop (m.ix-u8.b).toNat) rfl bh rfl (by rw [show m.lt=de u8.b u8.t u8.es m.ix by omega];rfl) h9c hD14 ho149 ?_;intro w264 h11;refine an ?_;refine bL (()) trivial (by (iterate 20 refine bd rfl ?_);exact br) ?_;rw [hk9];exact h11.from_ ag.rfl_
      refine ah (mvp rfl (ab (aa bJ rfl) (ab (ar ak rfl (by exact (show _=some (Value.int .i64 m.ix) from ((h9.kept hzb hm9).from_ (ag.rfl_.next D246)).rd 4 rfl))) ?_)));refine ab (aa cG rfl) (ab (ar ak rfl (by exact (show _=some (Value.int .i64 m.lt) from ((h9.kept hzb hm9).from_ (ag.rfl_.next D246)).rd 5 rfl))) ?_);refine ab (cl (l:=[(0,.tmp 155),(1,.tmp 157)]) (kV _ _)) (ab (av rfl) (ab (aa aN rfl) (ab (aa bn rfl) ?_)));have hk9:iq u8 m.ix m.lt=false:=mh (fun e=>by first | exact hin e.1 | omega);refine lE (b:=m.ix) (t9:=m.lt) (es:=[]) rfl bh rfl rfl (h9.from_ (ag.rfl_.next D246)) ag.rfl_ (World.ownsRow_nil _ _ _ _) ?_;intro w265 h11;refine an ?_;refine bL (()) trivial (by (iterate 17 refine bd rfl ?_);exact br) ?_;rw [hk9];exact h11.from_ ag.rfl_
     rintro _ ρ266 w266 h12;refine ao (ah (mvp rfl (mvp rfl (ab (av rfl) (ab (aa aN rfl) (ab (aa bw rfl) (ab (ar bF rfl (by exact (show _=some (Value.string u8.part) from (h12.from_ ag.rfl_).rd (fun _=>rfl)))) ?_)))))));refine ab (av rfl) (ab (aa aN rfl) (ab (aa dB rfl) (dU (s':=({ u8 with b:=m.ix,t:=m.lt,es:=(if iq u8 m.ix m.lt then u8.es.drop (m.ix-u8.b).toNat else []),snap:=u8.part }:Rf)) ep rfl rfl rfl (h12.from_ ag.rfl_) (fun _=>⟨by decide,rfl⟩) ⟨rfl,rfl,rfl,rfl,rfl,rfl⟩ ?_)));intro w267 h13;refine an (ai (ao (ah (mvp rfl (ab (aa bJ rfl) (ab (ar ak rfl (by exact (show _=some (Value.int .i64 m.ix) from ((h13.kept hzb hm9).from_ ag.rfl_).rd 4 rfl))) ?_))))));refine ab (av rfl) (ab (aa aN rfl) (ab (aa bW rfl) (dU (s':=({ u8 with b:=m.ix,t:=m.lt,es:=(if iq u8 m.ix m.lt then u8.es.drop (m.ix-u8.b).toNat else []),snap:=u8.part,commit:=m.ix }:Rf)) bc rfl rfl rfl (h13.from_ ag.rfl_) (fun _=>⟨by decide,rfl⟩) ⟨rfl,rfl,rfl,rfl,rfl,rfl⟩ ?_)));intro w268 h14;refine an (ai (ao (ah (mvp rfl (ab (av rfl) (ab (aa aN rfl) (ab (aa bw rfl) (dU (s':=({ u8 with b:=m.ix,t:=m.lt,es:=(if iq u8 m.ix m.lt then u8.es.drop (m.ix-u8.b).toNat else []),snap:=u8.part,commit:=m.ix,part:=⟨#[]⟩ }:Rf)) ep rfl rfl rfl (h14.from_ ag.rfl_) (fun _=>⟨by decide,rfl⟩) ⟨rfl,rfl,rfl,rfl,rfl,rfl⟩ ?_))))))));intro w269 h15;refine an (ai (ao (ah (mvp rfl (ab (av rfl) (ab (aa aN rfl) (ab (aa cA rfl) (dU (s':=({ u8 with b:=m.ix,t:=m.lt,es:=(if iq u8 m.ix m.lt then u8.es.drop (m.ix-u8.b).toNat else []),snap:=u8.part,commit:=m.ix,part:=⟨#[]⟩,partOf:=0 }:Rf)) bc rfl rfl rfl (h15.from_ ag.rfl_) (fun _=>⟨by decide,rfl⟩) ⟨rfl,rfl,rfl,rfl,rfl,rfl⟩ ?_))))))));intro w270 h16;have h17:aR wm Z7 w270 T g ⟨jQ u8 m.ix m.lt,[]⟩:=h16;obtain ⟨tgW,aW,OW,ocW,LW,hsW⟩:=h17.ex;obtain rfl:=hsW.nilL;refine an (ai ?_);apply fA [(0,185,fun _ v _=>v=_),(1,186,fun _ v _=>v=_),(2,187,fun S v w9=>S 11=false→(eqp (.int .i64 m.f)) v w9),(3,188,fun _ v _=>v=_),(4,189,fun _ v _=>v=_),(5,190,fun _ v _=>v=_),(6,191,fun _ v _=>v=_),(7,192,fun S v w9=>S 11=false→(eqp (.int .i64 m.ix)) v w9),(8,193,fun _ v _=>v=_),(9,194,fun S v w9=>S 11=false→(eqp (.int .i64 m.rd)) v w9),(10,195,fun S v w9=>S 11=false→(eqp (.agg (bC ({ zM with k:=4,t:=m.f,ok:=true,ix:=m.ix,rd:=m.rd }:Msg)).toArray)) v w9),(11,196,fun _ v _=>v=_)] [11] (fun S w'=>(S 11=false→ag w270 w')∧(S 11=true→aR wm Z7 w' T g (iI ⟨jQ u8 m.ix m.lt,[]⟩ m true m.ix))) (by kernel_rfl) (by kernel_rfl) rfl rfl ⟨fun _ _ _ _ _ _ _ h=>h,fun _ _ _ _ _ _ _ h=>h,fun S i v w1 w2 hq hF h h0=>(aj _) v w1 w2 hF (h (dY h0)),fun _ _ _ _ _ _ _ h=>h,fun _ _ _ _ _ _ _ h=>h,fun _ _ _ _ _ _ _ h=>h,fun _ _ _ _ _ _ _ h=>h,fun S i v w1 w2 hq hF h h0=>(aj _) v w1 w2 hF (h (dY h0)),fun _ _ _ _ _ _ _ h=>h,fun S i v w1 w2 hq hF h h0=>(aj _) v w1 w2 hF (h (dY h0)),fun S i v w1 w2 hq hF h h0=>(aj _) v w1 w2 hF (h (dY h0)),fun _ _ _ _ _ _ _ h=>h,trivial⟩ (fun S i w1 w2 hq hF h=>⟨fun h0=>(h.1 (dY h0)).next hF,fun h1=>(fun h=>h.from_ hF) (h.2 (jr (show 11≠i by rintro rfl;exact absurd hq (by decide)) h1))⟩) ⟨fun _=>ag.rfl_.d1,fun h=>by cases h⟩
     case hstep=>
      constructor
      ·rintro S L' w271 hU hmo hme hI hM hC hS ⟨-⟩;have hS0:S 11=false:=(af hC (j:=11) rfl (by kernel_rfl) hS);have hM271:=hM.1 hS0;have e0:=hI.1 0 (dv rfl);exact az [(0,_)] hU hmo hme hI hM (.head _) rfl rfl (by kernel_rfl) ⟨e0,trivial⟩ (aF (v:=.pointer _) rfl) ag.rfl_ (rfl)
      constructor
      ·rintro S L' w272 hU hmo hme hI hM hC hS ⟨-⟩;have hS0:S 11=false:=(af hC (j:=11) rfl (by kernel_rfl) (af hC (j:=10) rfl (by kernel_rfl) (af hC (j:=2) rfl (by kernel_rfl) hS)));have hM272:=hM.1 hS0;have e3:=hI.1 3 (dv rfl);exact az [(3,_)] hU hmo hme hI hM (.tail _ (.head _)) rfl rfl (by kernel_rfl) ⟨e3,trivial⟩ (aa bY rfl) ag.rfl_ (rfl)
      constructor
      ·rintro S L' w273 hU hmo hme hI hM hC hS ⟨d1,-⟩;have hS0:S 11=false:=(af hC (j:=11) rfl (by kernel_rfl) (af hC (j:=10) rfl (by kernel_rfl) hS));have hM273:=hM.1 hS0;obtain ⟨v273_186,e186,h186⟩:=hI.get (i:=1) (.tail _ (.head _)) d1;obtain rfl:=h186;exact az [(186,_)] hU hmo hme hI hM (gM 2 rfl) rfl rfl (by kernel_rfl) ⟨e186,trivial⟩ (ar ak rfl (by exact (show _=some (Value.int .i64 m.f) from ((h16.kept hzb hm9).from_ (ag.rfl_.next hM273)).rd 1 rfl))) ag.rfl_ (fun _=>rfl)
      constructor
      ·rintro S L' w274 hU hmo hme hI hM hC hS ⟨-⟩;have hS0:S 11=false:=(af hC (j:=11) rfl (by kernel_rfl) (af hC (j:=10) rfl (by kernel_rfl) (af hC (j:=7) rfl (by kernel_rfl) (af hC (j:=6) rfl (by kernel_rfl) (af hC (j:=5) rfl (by kernel_rfl) (af hC (j:=4) rfl (by kernel_rfl) hS))))));have hM274:=hM.1 hS0;have e0:=hI.1 0 (dv rfl);exact az [(0,_)] hU hmo hme hI hM (gM 3 rfl) rfl rfl (by kernel_rfl) ⟨e0,trivial⟩ (aF (v:=.pointer _) rfl) ag.rfl_ (rfl)
      constructor
      ·rintro S L' w275 hU hmo hme hI hM hC hS ⟨d3,-⟩;have hS0:S 11=false:=(af hC (j:=11) rfl (by kernel_rfl) (af hC (j:=10) rfl (by kernel_rfl) (af hC (j:=7) rfl (by kernel_rfl) (af hC (j:=6) rfl (by kernel_rfl) (af hC (j:=5) rfl (by kernel_rfl) hS)))));have hM275:=hM.1 hS0;obtain ⟨v275_188,e188,h188⟩:=hI.get (i:=3) (gM 3 rfl) d3;obtain rfl:=h188;exact az [(188,_)] hU hmo hme hI hM (gM 4 rfl) rfl rfl (by kernel_rfl) ⟨e188,trivial⟩ (av rfl) ag.rfl_ (rfl)
      constructor
      ·rintro S L' w276 hU hmo hme hI hM hC hS ⟨d4,-⟩;have hS0:S 11=false:=(af hC (j:=11) rfl (by kernel_rfl) (af hC (j:=10) rfl (by kernel_rfl) (af hC (j:=7) rfl (by kernel_rfl) (af hC (j:=6) rfl (by kernel_rfl) hS))));have hM276:=hM.1 hS0;obtain ⟨v276_189,e189,h189⟩:=hI.get (i:=4) (gM 4 rfl) d4;obtain rfl:=h189;exact az [(189,_)] hU hmo hme hI hM (gM 5 rfl) rfl rfl (by kernel_rfl) ⟨e189,trivial⟩ (aa aN rfl) ag.rfl_ (rfl)
      constructor
      ·rintro S L' w277 hU hmo hme hI hM hC hS ⟨d5,-⟩;have hS0:S 11=false:=(af hC (j:=11) rfl (by kernel_rfl) (af hC (j:=10) rfl (by kernel_rfl) (af hC (j:=7) rfl (by kernel_rfl) hS)));have hM277:=hM.1 hS0;obtain ⟨v277_190,e190,h190⟩:=hI.get (i:=5) (gM 5 rfl) d5;obtain rfl:=h190;exact az [(190,_)] hU hmo hme hI hM (gM 6 rfl) rfl rfl (by kernel_rfl) ⟨e190,trivial⟩ (aa bW rfl) ag.rfl_ (rfl)
      constructor
      ·rintro S L' w278 hU hmo hme hI hM hC hS ⟨d6,-⟩;have hS0:S 11=false:=(af hC (j:=11) rfl (by kernel_rfl) (af hC (j:=10) rfl (by kernel_rfl) hS));have hM278:=hM.1 hS0;obtain ⟨v278_191,e191,h191⟩:=hI.get (i:=6) (gM 6 rfl) d6;obtain rfl:=h191;exact az [(191,_)] hU hmo hme hI hM (gM 7 rfl) rfl rfl (by kernel_rfl) ⟨e191,trivial⟩ (ar ak rfl (by exact (show _=some (Value.int .i64 m.ix) from (h16.from_ (ag.rfl_.next hM278)).rd (fun _=>rfl)))) ag.rfl_ (fun _=>rfl)
      constructor
      ·rintro S L' w279 hU hmo hme hI hM hC hS ⟨-⟩;have hS0:S 11=false:=(af hC (j:=11) rfl (by kernel_rfl) (af hC (j:=10) rfl (by kernel_rfl) (af hC (j:=9) rfl (by kernel_rfl) hS)));have hM279:=hM.1 hS0;have e3:=hI.1 3 (dv rfl);exact az [(3,_)] hU hmo hme hI hM (gM 8 rfl) rfl rfl (by kernel_rfl) ⟨e3,trivial⟩ (aa dk rfl) ag.rfl_ (rfl)
      constructor
      ·rintro S L' w280 hU hmo hme hI hM hC hS ⟨d8,-⟩;have hS0:S 11=false:=(af hC (j:=11) rfl (by kernel_rfl) (af hC (j:=10) rfl (by kernel_rfl) hS));have hM280:=hM.1 hS0;obtain ⟨v280_193,e193,h193⟩:=hI.get (i:=8) (gM 8 rfl) d8;obtain rfl:=h193;exact az [(193,_)] hU hmo hme hI hM (gM 9 rfl) rfl rfl (by kernel_rfl) ⟨e193,trivial⟩ (ar ak rfl (by exact (show _=some (Value.int .i64 m.rd) from ((h16.kept hzb hm9).from_ (ag.rfl_.next hM280)).rd 7 rfl))) ag.rfl_ (fun _=>rfl)
      constructor
      ·rintro S L' w281 hU hmo hme hI hM hC hS ⟨d2,d7,d9,-⟩;have hS0:S 11=false:=(af hC (j:=11) rfl (by kernel_rfl) hS);have hM281:=hM.1 hS0;obtain ⟨v281_187,e187,h187⟩:=hI.get (i:=2) (gM 2 rfl) d2;obtain rfl:=h187 hS0;obtain ⟨v281_192,e192,h192⟩:=hI.get (i:=7) (gM 7 rfl) d7;obtain rfl:=h192 hS0;obtain ⟨v281_194,e194,h194⟩:=hI.get (i:=9) (gM 9 rfl) d9;obtain rfl:=h194 hS0;exact az [(187,_),(192,_),(194,_)] hU hmo hme hI hM (gM 10 rfl) rfl rfl (by kernel_rfl) ⟨e187,e192,e194,trivial⟩ (cl (l:=[(0,.const (.int .i64 4)),(2,.tmp 187),(8,.const (.bool true)),(4,.tmp 192),(7,.tmp 194)]) (dt _ _ _)) ag.rfl_ (fun _=>rfl)
      constructor
      ·rintro S L' w282 hU hmo hme hI hM hC hS ⟨d0,d10,-⟩;have hS0:S 11=false:=hS;have hM282:=hM.1 hS0;obtain ⟨v282_185,e185,h185⟩:=hI.get (i:=0) (.head _) d0;obtain rfl:=h185;obtain ⟨v282_195,e195,h195⟩:=hI.get (i:=10) (gM 10 rfl) d10;obtain rfl:=h195 hS0;refine dV (al:=[.tmp 185,.tmp 195]) [(185,_),(195,_)] hU hI (gM 11 rfl) (by kernel_rfl) ⟨e185,e195,trivial⟩ fO ((gH wm Z7 T g ⟨jQ u8 m.ix m.lt,[]⟩ _ (h17.from_ (ag.rfl_.next hM282)) _ _ _ _ _ (hsW.from_ (ag.rfl_.next hM282)) (Nat.zero_le _) ({ zM with k:=4,t:=m.f,ok:=true,ix:=m.ix,rd:=m.rd }:Msg) ⟨du,Col.none⟩).mono ?_);rintro v9 w2 ⟨rfl,hS2⟩;exact ⟨⟨fun h0=>(by rw [dS] at h0;cases h0),fun _=>hS2⟩,rfl,⟨fun _ _ _ h=>h,fun _ _ _ h=>h,fun _ _ _ _ h0=>(by rw [dS] at h0;cases h0),fun _ _ _ h=>h,fun _ _ _ h=>h,fun _ _ _ h=>h,fun _ _ _ h=>h,fun _ _ _ _ h0=>(by rw [dS] at h0;cases h0),fun _ _ _ h=>h,fun _ _ _ _ h0=>(by rw [dS] at h0;cases h0),fun _ _ _ _ h0=>(by rw [dS] at h0;cases h0),fun _ _ _ h=>h,trivial⟩⟩
      exact trivial
     case hend=>
      intro w283 hM;obtain hS9:=hM.2 rfl;rintro v283_185 rfl v283_186 rfl v283_187-v283_188 rfl v283_189 rfl v283_190 rfl v283_191 rfl v283_192-v283_193 rfl v283_194-v283_195-v283_196 rfl;refine ef (da (eg rfl ?_));rw [htC] at hnew;rw [jL hnew,tO hp8 hfb hu8 (by cases fb <;> simp_all)];exact ⟨rfl,h.back hE3 (hS9.from_ ag.rfl_) hzi⟩
   have hv8:Aj u8 m.ix 0 false:=.inr ⟨rfl,hin,rfl⟩;apply bK 13 [(124,eqp _),(125,eqp _),(126,eqp _),(127,eqp _),(128,eqp (.agg #[.int .i64 u8.b,.int .i64 u8.t,.slice aU.E u8.es.length aU.Ec])),(129,eqp _),(130,eqp (.int .i64 m.ix)),(131,eqp (.tuple #[.int .i64 0,.bool false])),(123,eqp (.tuple #[.int .i64 0,.bool false])),(132,eqp _),(133,eqp _),(4,eqp _),(7,eqp _)] (by repeat first | exact ct | refine cr ?_ | refine bX ?_) (by kernel_rfl) (by kernel_rfl) ⟨aj _,aj _,aj _,aj _,aj _,aj _,aj _,aj _,aj _,aj _,aj _,aj _,aj _,trivial⟩
   case hop=>
    constructor
    ·rintro-w285 D285;exact au (aF (v:=.pointer _) rfl) rfl
    constructor
    ·rintro-w286 D286;rintro _ rfl;exact au (av rfl) rfl
    constructor
    ·rintro-w287 D287;rintro _ rfl;exact au (aa aN rfl) rfl
    constructor
    ·rintro-w288 D288;rintro _ rfl;exact au (aa bn rfl) rfl
    constructor
    ·rintro-w289 D289;rintro _ rfl;exact au (aH (cs:=[.int .i64 u8.b,.int .i64 u8.t,.slice aU.E u8.es.length aU.Ec]) bQ bh rfl (gW (hsU.b.from_ (ag.rfl_.next D289)))) rfl
    constructor
    ·rintro-w290 D290;exact au (aa bJ rfl) rfl
    constructor
    ·rintro-w291 D291;rintro _ rfl;exact au (ar ak rfl (by exact (show _=some (Value.int .i64 m.ix) from ((h9.kept hzb hm9).from_ (ag.rfl_.next D291)).rd 4 rfl))) rfl
    constructor
    ·rintro-w292 D292;rintro v292_128 rfl v292_130 rfl;refine fL iR ((rN u8 m.ix aU.E aU.Ec _ (heU.from_ (ag.rfl_.next D292)) hmU hv8).mono ?_);rintro v w9 ⟨rfl,hF9⟩;exact ⟨hF9,rfl⟩
    constructor
    ·rintro-w293 D293;rintro v293_131 rfl;exact au (aF (v:=.tuple _) rfl) rfl
    constructor
    ·rintro-w294 D294;rintro v294_123 rfl;exact au (a_ rfl rfl) rfl
    constructor
    ·rintro-w295 D295;rintro v295_123 rfl;exact au (a_ rfl rfl) rfl
    constructor
    ·rintro-w296 D296;rintro _ rfl;exact au (cZ (v:=.int _ _) rfl) rfl
    constructor
    ·rintro-w297 D297;rintro _ rfl;exact au (cZ (v:=.bool _) rfl) rfl
    exact trivial
   case hend=>
    intro w298 D298;rintro _ rfl _ rfl _ rfl _ rfl v128 rfl _ rfl v130 rfl v131 rfl v123 rfl _ rfl _ rfl _ rfl _ rfl;show St ..;refine an (ai (e_ (G:=Unit) [134,135,136,137,138,139,140,141,142,143,144,145,146,147,148,149,150,151,152,153,154,155,156,157,158,159,160,161] (fun _=>[]) (fun _ w'=>aR wm Z7 w' T g ⟨({ u8 with b:=m.ix,t:=m.lt,es:=(if iq u8 m.ix m.lt then u8.es.drop (m.ix-u8.b).toNat else []) }:Rf),[]⟩) ?_ ?_))
    ·refine ao (ah (mvb rfl (mvb rfl (aK (t:=135) rfl (fun Q299=>?_) (fun Q299=>?_)))))
     ·exfalso;contradiction
     refine aq rfl rfl (aq rfl rfl (aq rfl rfl (aq rfl rfl (ab (ay (v:=.bool _) rfl rfl) (an (ai (bg rfl (ah (mvp rfl ?_)))))))));refine ab (aa bJ rfl) (ab (ar ak rfl (by exact (show _=some (Value.int .i64 m.ix) from ((h9.kept hzb hm9).from_ (ag.rfl_.next D298)).rd 4 rfl))) ?_);refine ab (aa cG rfl) (ab (ar ak rfl (by exact (show _=some (Value.int .i64 m.lt) from ((h9.kept hzb hm9).from_ (ag.rfl_.next D298)).rd 5 rfl))) ?_);refine ab (cl (l:=[(0,.tmp 155),(1,.tmp 157)]) (kV _ _)) (ab (av rfl) (ab (aa aN rfl) (ab (aa bn rfl) ?_)));have hk9:iq u8 m.ix m.lt=false:=mh (fun e=>by first | exact hin e.1 | omega);refine lE (b:=m.ix) (t9:=m.lt) (es:=[]) rfl bh rfl rfl (h9.from_ (ag.rfl_.next D298)) ag.rfl_ (World.ownsRow_nil _ _ _ _) ?_;intro w317 h11;refine an ?_;refine bL (()) trivial (by (iterate 17 refine bd rfl ?_);exact br) ?_;rw [hk9];exact h11.from_ ag.rfl_
    rintro _ ρ318 w318 h12;refine ao (ah (mvp rfl (mvp rfl (ab (av rfl) (ab (aa aN rfl) (ab (aa bw rfl) (ab (ar bF rfl (by exact (show _=some (Value.string u8.part) from (h12.from_ ag.rfl_).rd (fun _=>rfl)))) ?_)))))));refine ab (av rfl) (ab (aa aN rfl) (ab (aa dB rfl) (dU (s':=({ u8 with b:=m.ix,t:=m.lt,es:=(if iq u8 m.ix m.lt then u8.es.drop (m.ix-u8.b).toNat else []),snap:=u8.part }:Rf)) ep rfl rfl rfl (h12.from_ ag.rfl_) (fun _=>⟨by decide,rfl⟩) ⟨rfl,rfl,rfl,rfl,rfl,rfl⟩ ?_)));intro w319 h13;refine an (ai (ao (ah (mvp rfl (ab (aa bJ rfl) (ab (ar ak rfl (by exact (show _=some (Value.int .i64 m.ix) from ((h13.kept hzb hm9).from_ ag.rfl_).rd 4 rfl))) ?_))))));refine ab (av rfl) (ab (aa aN rfl) (ab (aa bW rfl) (dU (s':=({ u8 with b:=m.ix,t:=m.lt,es:=(if iq u8 m.ix m.lt then u8.es.drop (m.ix-u8.b).toNat else []),snap:=u8.part,commit:=m.ix }:Rf)) bc rfl rfl rfl (h13.from_ ag.rfl_) (fun _=>⟨by decide,rfl⟩) ⟨rfl,rfl,rfl,rfl,rfl,rfl⟩ ?_)));intro w320 h14;refine an (ai (ao (ah (mvp rfl (ab (av rfl) (ab (aa aN rfl) (ab (aa bw rfl) (dU (s':=({ u8 with b:=m.ix,t:=m.lt,es:=(if iq u8 m.ix m.lt then u8.es.drop (m.ix-u8.b).toNat else []),snap:=u8.part,commit:=m.ix,part:=⟨#[]⟩ }:Rf)) ep rfl rfl rfl (h14.from_ ag.rfl_) (fun _=>⟨by decide,rfl⟩) ⟨rfl,rfl,rfl,rfl,rfl,rfl⟩ ?_))))))));intro w321 h15;refine an (ai (ao (ah (mvp rfl (ab (av rfl) (ab (aa aN rfl) (ab (aa cA rfl) (dU (s':=({ u8 with b:=m.ix,t:=m.lt,es:=(if iq u8 m.ix m.lt then u8.es.drop (m.ix-u8.b).toNat else []),snap:=u8.part,commit:=m.ix,part:=⟨#[]⟩,partOf:=0 }:Rf)) bc rfl rfl rfl (h15.from_ ag.rfl_) (fun _=>⟨by decide,rfl⟩) ⟨rfl,rfl,rfl,rfl,rfl,rfl⟩ ?_))))))));intro w322 h16;have h17:aR wm Z7 w322 T g ⟨jQ u8 m.ix m.lt,[]⟩:=h16;obtain ⟨tgW,aW,OW,ocW,LW,hsW⟩:=h17.ex;obtain rfl:=hsW.nilL;refine an (ai ?_);apply fA [(0,185,fun _ v _=>v=_),(1,186,fun _ v _=>v=_),(2,187,fun S v w9=>S 11=false→(eqp (.int .i64 m.f)) v w9),(3,188,fun _ v _=>v=_),(4,189,fun _ v _=>v=_),(5,190,fun _ v _=>v=_),(6,191,fun _ v _=>v=_),(7,192,fun S v w9=>S 11=false→(eqp (.int .i64 m.ix)) v w9),(8,193,fun _ v _=>v=_),(9,194,fun S v w9=>S 11=false→(eqp (.int .i64 m.rd)) v w9),(10,195,fun S v w9=>S 11=false→(eqp (.agg (bC ({ zM with k:=4,t:=m.f,ok:=true,ix:=m.ix,rd:=m.rd }:Msg)).toArray)) v w9),(11,196,fun _ v _=>v=_)] [11] (fun S w'=>(S 11=false→ag w322 w')∧(S 11=true→aR wm Z7 w' T g (iI ⟨jQ u8 m.ix m.lt,[]⟩ m true m.ix))) (by kernel_rfl) (by kernel_rfl) rfl rfl ⟨fun _ _ _ _ _ _ _ h=>h,fun _ _ _ _ _ _ _ h=>h,fun S i v w1 w2 hq hF h h0=>(aj _) v w1 w2 hF (h (dY h0)),fun _ _ _ _ _ _ _ h=>h,fun _ _ _ _ _ _ _ h=>h,fun _ _ _ _ _ _ _ h=>h,fun _ _ _ _ _ _ _ h=>h,fun S i v w1 w2 hq hF h h0=>(aj _) v w1 w2 hF (h (dY h0)),fun _ _ _ _ _ _ _ h=>h,fun S i v w1 w2 hq hF h h0=>(aj _) v w1 w2 hF (h (dY h0)),fun S i v w1 w2 hq hF h h0=>(aj _) v w1 w2 hF (h (dY h0)),fun _ _ _ _ _ _ _ h=>h,trivial⟩ (fun S i w1 w2 hq hF h=>⟨fun h0=>(h.1 (dY h0)).next hF,fun h1=>(fun h=>h.from_ hF) (h.2 (jr (show 11≠i by rintro rfl;exact absurd hq (by decide)) h1))⟩) ⟨fun _=>ag.rfl_.d1,fun h=>by cases h⟩
    case hstep=>
     constructor
     ·rintro S L' w323 hU hmo hme hI hM hC hS ⟨-⟩;have hS0:S 11=false:=(af hC (j:=11) rfl (by kernel_rfl) hS);have hM323:=hM.1 hS0;have e0:=hI.1 0 (dv rfl);exact az [(0,_)] hU hmo hme hI hM (.head _) rfl rfl (by kernel_rfl) ⟨e0,trivial⟩ (aF (v:=.pointer _) rfl) ag.rfl_ (rfl)
     constructor
     ·rintro S L' w324 hU hmo hme hI hM hC hS ⟨-⟩;have hS0:S 11=false:=(af hC (j:=11) rfl (by kernel_rfl) (af hC (j:=10) rfl (by kernel_rfl) (af hC (j:=2) rfl (by kernel_rfl) hS)));have hM324:=hM.1 hS0;have e3:=hI.1 3 (dv rfl);exact az [(3,_)] hU hmo hme hI hM (.tail _ (.head _)) rfl rfl (by kernel_rfl) ⟨e3,trivial⟩ (aa bY rfl) ag.rfl_ (rfl)
     constructor
     ·rintro S L' w325 hU hmo hme hI hM hC hS ⟨d1,-⟩;have hS0:S 11=false:=(af hC (j:=11) rfl (by kernel_rfl) (af hC (j:=10) rfl (by kernel_rfl) hS));have hM325:=hM.1 hS0;obtain ⟨v325_186,e186,h186⟩:=hI.get (i:=1) (.tail _ (.head _)) d1;obtain rfl:=h186;exact az [(186,_)] hU hmo hme hI hM (gM 2 rfl) rfl rfl (by kernel_rfl) ⟨e186,trivial⟩ (ar ak rfl (by exact (show _=some (Value.int .i64 m.f) from ((h16.kept hzb hm9).from_ (ag.rfl_.next hM325)).rd 1 rfl))) ag.rfl_ (fun _=>rfl)
     constructor
     ·rintro S L' w326 hU hmo hme hI hM hC hS ⟨-⟩;have hS0:S 11=false:=(af hC (j:=11) rfl (by kernel_rfl) (af hC (j:=10) rfl (by kernel_rfl) (af hC (j:=7) rfl (by kernel_rfl) (af hC (j:=6) rfl (by kernel_rfl) (af hC (j:=5) rfl (by kernel_rfl) (af hC (j:=4) rfl (by kernel_rfl) hS))))));have hM326:=hM.1 hS0;have e0:=hI.1 0 (dv rfl);exact az [(0,_)] hU hmo hme hI hM (gM 3 rfl) rfl rfl (by kernel_rfl) ⟨e0,trivial⟩ (aF (v:=.pointer _) rfl) ag.rfl_ (rfl)
     constructor
     ·rintro S L' w327 hU hmo hme hI hM hC hS ⟨d3,-⟩;have hS0:S 11=false:=(af hC (j:=11) rfl (by kernel_rfl) (af hC (j:=10) rfl (by kernel_rfl) (af hC (j:=7) rfl (by kernel_rfl) (af hC (j:=6) rfl (by kernel_rfl) (af hC (j:=5) rfl (by kernel_rfl) hS)))));have hM327:=hM.1 hS0;obtain ⟨v327_188,e188,h188⟩:=hI.get (i:=3) (gM 3 rfl) d3;obtain rfl:=h188;exact az [(188,_)] hU hmo hme hI hM (gM 4 rfl) rfl rfl (by kernel_rfl) ⟨e188,trivial⟩ (av rfl) ag.rfl_ (rfl)
     constructor
     ·rintro S L' w328 hU hmo hme hI hM hC hS ⟨d4,-⟩;have hS0:S 11=false:=(af hC (j:=11) rfl (by kernel_rfl) (af hC (j:=10) rfl (by kernel_rfl) (af hC (j:=7) rfl (by kernel_rfl) (af hC (j:=6) rfl (by kernel_rfl) hS))));have hM328:=hM.1 hS0;obtain ⟨v328_189,e189,h189⟩:=hI.get (i:=4) (gM 4 rfl) d4;obtain rfl:=h189;exact az [(189,_)] hU hmo hme hI hM (gM 5 rfl) rfl rfl (by kernel_rfl) ⟨e189,trivial⟩ (aa aN rfl) ag.rfl_ (rfl)
     constructor
     ·rintro S L' w329 hU hmo hme hI hM hC hS ⟨d5,-⟩;have hS0:S 11=false:=(af hC (j:=11) rfl (by kernel_rfl) (af hC (j:=10) rfl (by kernel_rfl) (af hC (j:=7) rfl (by kernel_rfl) hS)));have hM329:=hM.1 hS0;obtain ⟨v329_190,e190,h190⟩:=hI.get (i:=5) (gM 5 rfl) d5;obtain rfl:=h190;exact az [(190,_)] hU hmo hme hI hM (gM 6 rfl) rfl rfl (by kernel_rfl) ⟨e190,trivial⟩ (aa bW rfl) ag.rfl_ (rfl)
     constructor
     ·rintro S L' w330 hU hmo hme hI hM hC hS ⟨d6,-⟩;have hS0:S 11=false:=(af hC (j:=11) rfl (by kernel_rfl) (af hC (j:=10) rfl (by kernel_rfl) hS));have hM330:=hM.1 hS0;obtain ⟨v330_191,e191,h191⟩:=hI.get (i:=6) (gM 6 rfl) d6;obtain rfl:=h191;exact az [(191,_)] hU hmo hme hI hM (gM 7 rfl) rfl rfl (by kernel_rfl) ⟨e191,trivial⟩ (ar ak rfl (by exact (show _=some (Value.int .i64 m.ix) from (h16.from_ (ag.rfl_.next hM330)).rd (fun _=>rfl)))) ag.rfl_ (fun _=>rfl)
     constructor
     ·rintro S L' w331 hU hmo hme hI hM hC hS ⟨-⟩;have hS0:S 11=false:=(af hC (j:=11) rfl (by kernel_rfl) (af hC (j:=10) rfl (by kernel_rfl) (af hC (j:=9) rfl (by kernel_rfl) hS)));have hM331:=hM.1 hS0;have e3:=hI.1 3 (dv rfl);exact az [(3,_)] hU hmo hme hI hM (gM 8 rfl) rfl rfl (by kernel_rfl) ⟨e3,trivial⟩ (aa dk rfl) ag.rfl_ (rfl)
     constructor
     ·rintro S L' w332 hU hmo hme hI hM hC hS ⟨d8,-⟩;have hS0:S 11=false:=(af hC (j:=11) rfl (by kernel_rfl) (af hC (j:=10) rfl (by kernel_rfl) hS));have hM332:=hM.1 hS0;obtain ⟨v332_193,e193,h193⟩:=hI.get (i:=8) (gM 8 rfl) d8;obtain rfl:=h193;exact az [(193,_)] hU hmo hme hI hM (gM 9 rfl) rfl rfl (by kernel_rfl) ⟨e193,trivial⟩ (ar ak rfl (by exact (show _=some (Value.int .i64 m.rd) from ((h16.kept hzb hm9).from_ (ag.rfl_.next hM332)).rd 7 rfl))) ag.rfl_ (fun _=>rfl)
     constructor
     ·rintro S L' w333 hU hmo hme hI hM hC hS ⟨d2,d7,d9,-⟩;have hS0:S 11=false:=(af hC (j:=11) rfl (by kernel_rfl) hS);have hM333:=hM.1 hS0;obtain ⟨v333_187,e187,h187⟩:=hI.get (i:=2) (gM 2 rfl) d2;obtain rfl:=h187 hS0;obtain ⟨v333_192,e192,h192⟩:=hI.get (i:=7) (gM 7 rfl) d7;obtain rfl:=h192 hS0;obtain ⟨v333_194,e194,h194⟩:=hI.get (i:=9) (gM 9 rfl) d9;obtain rfl:=h194 hS0;exact az [(187,_),(192,_),(194,_)] hU hmo hme hI hM (gM 10 rfl) rfl rfl (by kernel_rfl) ⟨e187,e192,e194,trivial⟩ (cl (l:=[(0,.const (.int .i64 4)),(2,.tmp 187),(8,.const (.bool true)),(4,.tmp 192),(7,.tmp 194)]) (dt _ _ _)) ag.rfl_ (fun _=>rfl)
     constructor
     ·rintro S L' w334 hU hmo hme hI hM hC hS ⟨d0,d10,-⟩;have hS0:S 11=false:=hS;have hM334:=hM.1 hS0;obtain ⟨v334_185,e185,h185⟩:=hI.get (i:=0) (.head _) d0;obtain rfl:=h185;obtain ⟨v334_195,e195,h195⟩:=hI.get (i:=10) (gM 10 rfl) d10;obtain rfl:=h195 hS0;refine dV (al:=[.tmp 185,.tmp 195]) [(185,_),(195,_)] hU hI (gM 11 rfl) (by kernel_rfl) ⟨e185,e195,trivial⟩ fO ((gH wm Z7 T g ⟨jQ u8 m.ix m.lt,[]⟩ _ (h17.from_ (ag.rfl_.next hM334)) _ _ _ _ _ (hsW.from_ (ag.rfl_.next hM334)) (Nat.zero_le _) ({ zM with k:=4,t:=m.f,ok:=true,ix:=m.ix,rd:=m.rd }:Msg) ⟨du,Col.none⟩).mono ?_);rintro v9 w2 ⟨rfl,hS2⟩;exact ⟨⟨fun h0=>(by rw [dS] at h0;cases h0),fun _=>hS2⟩,rfl,⟨fun _ _ _ h=>h,fun _ _ _ h=>h,fun _ _ _ _ h0=>(by rw [dS] at h0;cases h0),fun _ _ _ h=>h,fun _ _ _ h=>h,fun _ _ _ h=>h,fun _ _ _ h=>h,fun _ _ _ _ h0=>(by rw [dS] at h0;cases h0),fun _ _ _ h=>h,fun _ _ _ _ h0=>(by rw [dS] at h0;cases h0),fun _ _ _ _ h0=>(by rw [dS] at h0;cases h0),fun _ _ _ h=>h,trivial⟩⟩
     exact trivial
    case hend=>
     intro w335 hM;obtain hS9:=hM.2 rfl;rintro v335_185 rfl v335_186 rfl v335_187-v335_188 rfl v335_189 rfl v335_190 rfl v335_191 rfl v335_192-v335_193 rfl v335_194-v335_195-v335_196 rfl;refine ef (da (eg rfl ?_));rw [htC] at hnew;rw [jL hnew,tO hp8 hfb hu8 (by cases fb <;> simp_all)];exact ⟨rfl,h.back hE3 (hS9.from_ ag.rfl_) hzi⟩
end Go.Proofs.YtkpooenofjdpmaaGreat
