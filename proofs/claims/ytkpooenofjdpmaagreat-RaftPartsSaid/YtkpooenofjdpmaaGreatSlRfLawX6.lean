/- texts that the claim stands on. -/
import Derived.Test.YtkpooenofjdpmaaGreatSlRfLawX5

set_option maxRecDepth 100000
set_option maxHeartbeats 4000000
namespace Go.Proofs.YtkpooenofjdpmaaGreat
open Go.Proofs.Tryz (prog)
open Go.RowKit
open Go.ChangeShapes Go.WideShapes Go.ChangeAt
theorem qm:aN prog 146=true:=by kernel_rfl
theorem iF:aN prog 149=true:=by kernel_rfl
theorem ql:aN prog 150=true:=by kernel_rfl
def kG (id rn:Int) (q:Rd):Rd:=if q.rn≤rn then { q with acks:=eB q.acks id } else q
def iK (f:Rd→Rd) (l:List Rd) (i:Nat):List Rd:=(l.take i).map f++l.drop i
section
variable {f:Rd→Rd} {l:List Rd} {i:Nat}
theorem yf:iK f l l.length=l.map f:=by unfold iK;rw [List.take_length,List.drop_length,List.append_nil]
theorem vp:(iK f l i).length=l.length:=by unfold iK;rw [List.length_append,List.length_map,List.length_take,List.length_drop];omega
theorem p_ (h:i<l.length):(iK f l i)[i]'(by rw [vp];exact h)=l[i]:=by
 unfold iK;rw [List.getElem_append_right (by rw [List.length_map,List.length_take];omega)];simp only [List.length_map,List.length_take,List.getElem_drop]
 congr 1
 omega
theorem p9 (h:i<l.length):(iK f l i).set i (f l[i])=iK f l (i+1):=by
 have ht:((l.take i).map f).length=i:=by rw [List.length_map,List.length_take];omega
 unfold iK;rw [List.set_append_right _ _ (by omega),ht,Nat.sub_self,List.drop_eq_getElem_cons h,List.set_cons_zero,List.take_succ_eq_append_getElem h,List.map_append,List.append_assoc];rfl
theorem tz (h:i<l.length) (he:f l[i]=l[i]):iK f l (i+1)=iK f l i:=by
 have h9:=p_ (f:=f) h;rw [←p9 h,he,←h9,List.set_getElem_self]
end
theorem uu:∀ (L:List (Rd×Option Addr×Nat)) (i:Nat) (hi:i<L.length) (l2:List Int) (A2:Option Addr) (c2:Nat),(L.flatMap rdV).set (i*4+3) (.slice A2 l2.length c2)=(L.set i ({ L[i].1 with acks:=l2 },A2,c2)).flatMap rdV
 |[],i,hi,_,_,_=>absurd hi (Nat.not_lt_zero _)
 |x::r,0,_,l2,A2,c2=>rfl
 |x::r,i+1,hi,l2,A2,c2=>by
  have h1:=uu r i (by simpa using hi) l2 A2 c2;show (rdV x++r.flatMap rdV).set ((i+1)*4+3) _=rdV x++(r.set i _).flatMap rdV;rw [List.set_append_right _ _ (by rw [iB];omega),iB,show (i+1)*4+3-4=i*4+3 by omega,h1];rfl
section
variable {w0 w w1 w2:World} {Z:Nat→Prop} {T g oc i gQ c2:Nat} {tag:Nat→Nat} {s:Rf} {out L:List Msg} {a:Ra} {O A2:Option Addr} {l2:List Int} {x:Rd×Option Addr×Nat}
theorem jN {d base e sz n cc y:Nat} {A:Option Addr} {xs:List Value} (hC:Chg (fun k=>tag k=y) w w1) (hO:dw gQ w1 w2) (hg:tag gQ=5) (hgl:gQ<w.heap.size) (hy:d≠y) (h5:d≠5) (h:w.ownsRow base e sz (.slice A n cc) n xs∧Col tag d A):w2.ownsRow base e sz (.slice A n cc) n xs∧Col (dO w.heap.size y tag) d A:=by
 have h1:=eF hC hy h;exact ⟨fY h1.1 hO (fun k hk e=>h5 ((h1.2 k hk).symm.trans (by rw [e,cy hgl];exact hg))),h1.2⟩
theorem aY.ack1 (h:aY w tag s a) (hi:i<a.L.length) (hC:Chg (fun k=>tag k=1001+2*i) w w1) (hx:x=({ a.L[i].1 with acks:=l2 },A2,c2)) (ho:w1.ownsRow 0 3 1 (.slice A2 l2.length c2) l2.length (l2.map iV)) (hL:∀ k,A2.map (·.block)=some k→a.L[i].2.1.map (·.block)=some k∨w.heap.size≤k)
 (hg:tag gQ=5) (hgl:gQ<w.heap.size) (hO:dw gQ w1 w2) (hq:w2.ownsRow 0 54 4 (.slice a.Q a.L.length a.Qc) a.L.length ((a.L.set i x).flatMap rdV)):aY w2 (dO w.heap.size (1001+2*i) tag) { s with reads:=(a.L.set i x).map fun q=>q.1 } { a with L:=a.L.set i x }:=by
 subst hx;refine ⟨fun _=>jN hC hO hg hgl (by omega) (by decide) (h.e (by decide)),fun _=>jN hC hO hg hgl (by omega) (by decide) (h.v (by decide)),fun _=>jN hC hO hg hgl (by omega) (by decide) (h.x (by decide)),fun _=>jN hC hO hg hgl (by omega) (by decide) (h.m (by decide)),fun _=>jN hC hO hg hgl (by omega) (by decide) (h.n (by decide)),fun _=>rfl,fun _=>?_,fun j hj _=>?_⟩
 ·refine ⟨?_,(h.q (by decide)).2.re (dI (h.q (by decide)).1)⟩;simp only [List.length_set];exact hq
 ·simp only [List.length_set] at hj;by_cases e:i=j
  ·subst e;simp only [List.getElem_set_self];refine ⟨fY ho hO (fun k hk e=>?_),fun k hk=>?_⟩
   ·rcases hL k hk with h1 | h1
    ·have:=(h.k i hi (by omega)).2 k h1;rw [e,hg] at this;omega
    ·omega
   ·rcases hL k hk with h1 | h1
    ·rw [cy (dI (h.k i hi (by omega)).1 k h1)];exact (h.k i hi (by omega)).2 k h1
    ·exact ef h1
  ·simp only [List.getElem_set_ne e];exact jN hC hO hg hgl (by omega) (by omega) (h.k j hj (by omega))
theorem aF.ack1 (h:aF w0 Z w T g ⟨s,out⟩) (hs:eN w Z T g tag ⟨s,out⟩ a O oc L) (hi:i<a.L.length) (hC:Chg (fun k=>tag k=1001+2*i) w w1) (hx:x=({ a.L[i].1 with acks:=l2 },A2,c2)) (ho:w1.ownsRow 0 3 1 (.slice A2 l2.length c2) l2.length (l2.map iV)) (hL:∀ k,A2.map (·.block)=some k→a.L[i].2.1.map (·.block)=some k∨w.heap.size≤k)
 (hQ:a.Q=some ⟨gQ,0,none⟩) (hO:dw gQ w1 w2) (hq:w2.ownsRow 0 54 4 (.slice a.Q a.L.length a.Qc) a.L.length ((a.L.set i x).flatMap rdV)) :
 eN w2 Z T g (dO w.heap.size (1001+2*i) tag) ⟨{ s with reads:=(a.L.set i x).map fun q=>q.1 },out⟩ { a with L:=a.L.set i x } O oc L∧aF w0 Z w2 T g ⟨{ s with reads:=(a.L.set i x).map fun q=>q.1 },out⟩:=by
 have hqo:=hs.f.q (by decide);have hg:tag gQ=5:=hqo.2 gQ (by rw [hQ];rfl);have hgl:gQ<w.heap.size:=dI hqo.1 gQ (by rw [hQ];rfl);have hf:=hs.f.ack1 hi hC hx ho hL hg hgl hO hq;have hz:∀ k,Z k→k<w.heap.size:=h.zw;have hm:=hs.m.chg hC (by omega) (fun j _=>by omega);have hgt:dO w.heap.size (1001+2*i) tag gQ=5:=(cy hgl).trans hg;have mv:∀ {d e sz n cc:Nat} {A:Option Addr} {xs:List Value},d≠5→w1.ownsRow 0 e sz (.slice A n cc) n xs∧Col (dO w.heap.size (1001+2*i) tag) d A→w2.ownsRow 0 e sz (.slice A n cc) n xs∧Col (dO w.heap.size (1001+2*i) tag) d A:=fun hd h1=>⟨fY h1.1 hO fun k hk e=>hd ((h1.2 k hk).symm.trans (by rw [e];exact hgt)),h1.2⟩
 have hgg:g≠gQ:=fun e=>by have:=hs.gc;rw [e,hg] at this;cases this
 have hb:Blk w2 g T (rfV { s with reads:=(a.L.set i x).map fun q=>q.1 } { a with L:=a.L.set i x }++[Value.slice O L.length oc]).toArray:=by
  have h1:=(hs.b.chg hC (fun e=>by have:=hs.gc;omega)).only hO hgg
  have e1:rfV { s with reads:=(a.L.set i x).map fun q=>q.1 } { a with L:=a.L.set i x }=rfV s a:=by
   unfold rfV;simp only [List.length_set]
  rw [e1];exact h1
 have h1:eN w2 Z T g (dO w.heap.size (1001+2*i) tag) ⟨{ s with reads:=(a.L.set i x).map fun q=>q.1 },out⟩ { a with L:=a.L.set i x } O oc L:=
  ⟨hb,hf,⟨(mv (d:=6) (by decide) ⟨hm.o,hm.c⟩).1,hm.l,fun j hj=>mv (by omega) (hm.e j hj),hm.c⟩,(cy hs.b.lt).trans hs.gc,fun k hk=>(cy (hz k hk)).trans (hs.z k hk)⟩
 refine ⟨h1,⟨⟨_,_,_,_,_,h1⟩,h.zl,?_⟩⟩;refine (h.fr.next (hC.wide fun k hk=>.inl fun hz1=>?_)).next ((hO.toChg (U:=fun k=>k=gQ) rfl).wide fun k hk=>.inl fun hz1=>?_)
 ·have:=hs.z k hz1;omega
 ·have:=hs.z k hz1;rw [show k=gQ from hk,hg] at this;cases this
end
theorem wL {s:Rf} (h:RfF s) {i:Nat} (hi:i<s.reads.length):s.reads[i].acks.Pairwise (·<·)∧s.reads[i].acks.length≤7:=by
 have h1:=f_.1 (h.rd _ (List.getElem_mem hi));have h2:eL s.reads[i].acks s.nodes=true:=h1.2.2.2;have h3:=ju h2;refine ⟨mC _ h3.2,?_⟩;have h4:=iO _ 0 s.nodes h3.2 (fun x hx=>by have:=h3.1 x hx;omega);have:=h.n;omega
theorem oC (l:List Int) (k:Nat) (v:Int):ck l ((k:Int)+1) v=l.set k v:=by
 unfold ck;rw [show ((k:Int)+1-1).toNat=k by omega]
theorem oV (w0:World) (Z:Nat→Prop) (T g:Nat) (s:Rf) (out:List Msg) (w:World) (h:aF w0 Z w T g ⟨s,out⟩) (hF:RfF s) (id rn:Int) :
 Rt prog 149 [.pointer (some ⟨g,0,none⟩),.int .i64 id,.int .i64 rn] w (fun v w'=>v=.tuple #[]∧aF w0 Z w' T g ⟨jd s id rn,out⟩):=by
 have hrl:=hF.rl;obtain ⟨tag,⟨E,Ec,V,Vc,X,Xc,M,Mc,Sn,Sc,Q,Qc,LL⟩,O,oc,L,hs⟩:=h.ex;have hrL:LL.map (fun q=>q.1)=s.reads:=hs.f.r (by decide);have hln:LL.length=s.reads.length:=by rw [←hrL,List.length_map]
 obtain ⟨n,hn⟩:∃ n,n=LL.length:=⟨_,rfl⟩;have hb:=hs.b;refine enter (n:=36) Tryz.func149 rfl rfl rfl (ao (ag (mvp rfl (ab (av rfl) (ab (aa aw rfl) (ab (aa cG rfl) ?_))))));refine ab (au dH rfl (by exact (show _=some (Value.slice Q n Qc) from by rw [hn];exact cB (hb.from_ ai.rfl_) 19 rfl))) ?_;refine ab (b0 fk rfl) (mvi rfl (aq (ah (bk (dC (G:=Nat×(Nat→Nat)×List (Rd×Option Addr×Nat)) [6,7,15,16,17,18,19,20,21,22,23,24,25,26,27,28,29,30,31,32,33,34,35] (fun (i,_,_)=>[(14,.int .i64 (i:Nat))]) (fun (i,tg,L9) w'=>i≤n∧L9.length=n∧aF w0 Z w' T g ⟨({ s with reads:=iK (kG id rn) s.reads i }:Rf),out⟩∧eN w' Z T g tg ⟨({ s with reads:=iK (kG id rn) s.reads i }:Rf),out⟩ (⟨E,Ec,V,Vc,X,Xc,M,Mc,Sn,Sc,Q,Qc,L9⟩:Ra) O oc L) (fun (i,_,_)=>n-i) ((0,tag,LL)) ⟨rfl,trivial⟩ ?_ ?_)))))
 ·exact ⟨Nat.zero_le _,hn.symm,h.from_ ai.rfl_,hs.from_ ai.rfl_⟩
 rintro ⟨i,tg,L9⟩ ρ1 w1 ⟨hi,hl9,h5,hs5⟩;refine ao (ag (ab (cA rfl rfl) (aq (ah (ao (yS rfl (fun Q2=>?_) (fun Q2=>?_)))))))
 ·have hkL:i<L9.length:=by omega
  have hkr:i<s.reads.length:=by omega
  have hm9:L9.map (fun q=>q.1)=iK (kG id rn) s.reads i:=hs5.f.r (by decide)
  have h19:L9[i].1=s.reads[i]:=by
   rw [←p_ (f:=kG id rn) hkr];have:=List.getElem_map (fun q:Rd×Option Addr×Nat=>q.1) (l:=L9) (i:=i) (h:=by rw [List.length_map];exact hkL);rw [←this];simp only [hm9]
  have hac:=wL hF hkr;rw [←h19] at hac;obtain ⟨gQ,rfl⟩:∃ q,Q=some ⟨q,0,none⟩:=du (hs5.f.q (by decide)).1 (by show 0<L9.length;omega);obtain ⟨ba,oa,heq,hcs⟩:=(aY.rd hs5.f).q (by show 0<L9.length;omega);obtain ⟨rfl,rfl⟩:gQ=ba∧0=oa:=by cases heq;exact ⟨rfl,rfl⟩
  have hEi:ai w1 w1:=ai.rfl_;refine aI (ah (ao (bk (ao (ag (mvi rfl (ab (cq fI rfl rfl (by omega)) (ab (aR (cs:=rdV L9[i]) lJ iH rfl (fL ai.rfl_ (hcs i hkL))) (dq lI ?_)))))))));intro b7 w3 E7 hb7 hk7;have hg7:=Nat.le_trans hEi.size (Nat.le_of_eq hb7.symm);have hE7:=hEi.next E7;refine asi rfl (cZ (vs:=[_,_,_,_]) iH rfl rfl (by simp [Value.oneCell']) ((hk7.from_ ai.rfl_)) rfl ?_);intro w4 O2 P2;have hE2:=hE7.only O2 hg7;have hs3:=hs5.from_ hE2;have h3:=h5.from_ hE2;have P2b:=P2;have hkO:=(hs3.f.k i hkL (by omega)).1
  have hrQ:∀ w9,(w4).grownBy w9 (L9[i].2.1.map (·.block))→w9.cell? ⟨g,19,none⟩=some (.slice (some ⟨gQ,0,none⟩) n Qc):=fun w9 hF9=>by
   have h9:=cB (hs3.b.chg (Chg.of_grown (U:=fun q=>tg q=1001+2*i) hF9 (fun q hq=>(hs3.f.k i hkL (by omega)).2 q hq)) (fun e=>by have:=hs3.gc;omega)) 19 rfl;rw [show (Ra.L ⟨E,Ec,V,Vc,X,Xc,M,Mc,Sn,Sc,some ⟨gQ,0,none⟩,Qc,L9⟩).length=n from hl9] at h9;exact h9
  refine aq (ah (ao (ag (ab (aa j5 rfl) (ab (au ak rfl (show _=some (Value.int .i64 L9[i].1.rn) from (P2b.from_ ai.rfl_).rd 2 rfl)) (mvi rfl (ab (fx rfl rfl) (aq (ah (yS rfl (fun Q5=>?_) (fun Q5=>?_)))))))))))
  ·have hle:L9[i].1.rn≤rn:=by omega
   apply vg 12 9 [] [(23,eqp _),(24,eqp _),(25,eqp _),(26,eqp _),(27,eqp (.slice (some ⟨gQ,0,none⟩) n Qc)),(28,eqp (.int .i64 (i:Nat))),(29,eqp _),(30,eqp (.slice L9[i].2.1 L9[i].1.acks.length L9[i].2.2)),(31,eqp _),(32,fun (v:Value) (w':World)=>∃ (A2:Option Addr) (c2:Nat),v=Value.slice A2 (eB L9[i].1.acks id).length c2∧w'.ownsRow 0 3 1 (.slice A2 (eB L9[i].1.acks id).length c2) (eB L9[i].1.acks id).length ((eB L9[i].1.acks id).map iV)∧(∀ k,A2.map (·.block)=some k→L9[i].2.1.map (·.block)=some k∨(w4).heap.size≤k)),(33,eqp (.pointer (some ⟨gQ,0+i*4,none⟩))),(34,eqp _)] (fun w'=>ai w4 w') (fun w'=>(w4).grownBy w' (L9[i].2.1.map (·.block))) (by repeat first | exact bN | refine bM ?_ | refine bB ?_) (by kernel_rfl) (by kernel_rfl) (by kernel_rfl) ⟨ae _,ae _,ae _,ae _,ae _,ae _,ae _,ae _,ae _,(fun _ _ _ hF ⟨A2,c2,h1,h2,h3⟩=>⟨A2,c2,h1,h2.kept_from hF,h3⟩),ae _,ae _,trivial⟩ (ai.rfl_.d1) (ai.rfl_.d1.grown _) (fun _ _ hF h=>h.next hF) (fun _ _ hF h=>eb h (hF.grown _))
   case hop=>
    constructor
    ·rintro-w7 hG7;exact an (aC (v:=.pointer _) rfl) rfl
    constructor
    ·rintro-w8 hG8;rintro _ rfl;exact an (av rfl) rfl
    constructor
    ·rintro-w9 hG9;rintro _ rfl;exact an (aa aw rfl) rfl
    constructor
    ·rintro-w10 hG10;rintro _ rfl;exact an (aa cG rfl) rfl
    constructor
    ·rintro-w11 hG11;rintro _ rfl;exact an (au dH rfl (show _=some (Value.slice (some ⟨gQ,0,none⟩) n Qc) from hrQ _ hG11)) rfl
    constructor
    ·rintro-w12 hG12;exact an (aC (v:=.int _ _) rfl) rfl
    constructor
    ·rintro-w13 D13;exact an (aa eX rfl) rfl
    constructor
    ·rintro-w14 D14;rintro _ rfl;exact an (au bj rfl (show _=some (Value.slice L9[i].2.1 L9[i].1.acks.length L9[i].2.2) from (P2b.from_ D14).rd 3 rfl)) rfl
    constructor
    ·rintro-w15 D15;exact an (aC (v:=.int _ _) rfl) rfl
    constructor
    ·intro h;cases h
    constructor
    ·rintro-w17 hG17;rintro v17_27 rfl v17_28 rfl;exact an (cq fI rfl rfl (by omega)) rfl
    constructor
    ·rintro-w18 hG18;rintro v18_33 rfl;exact an (aa eX rfl) rfl
    exact trivial
   case hmu=>
    rintro w19 D19;rintro v19_30 rfl _ rfl;show sh ..;refine we qm (vy L9[i].2.1 L9[i].2.2 L9[i].1.acks id _ (hkO.kept_from D19) hac.1 (by omega)) ?_;rintro v w3 ⟨⟨A2,c2,rfl,ho3,hl3⟩,hg3⟩;exact ⟨eb (D19.grown _) hg3,⟨A2,c2,rfl,ho3,fun k hk=>(hl3 k hk).imp (fun e=>e) fun e=>Nat.le_trans D19.size e⟩,fun t u ht h=>mM (by repeat first | exact trivial | refine ⟨.inl rfl,?_⟩ | refine ⟨.inr (fun _ h=>h),?_⟩) t u ht h⟩
   case hend=>
    rintro w20 hG20;rintro _ rfl _ rfl _ rfl _ rfl v27 rfl v28 rfl _ rfl v30 rfl _ rfl v32 ⟨A32,c32,rfl,ho32,hL32⟩ v33 rfl _ rfl;show St ..;have hgD:=hG20;have hCA:Chg (fun q=>tg q=1001+2*i) _ w20:=Chg.of_grown hgD (fun q hq=>(hs3.f.k i hkL (by omega)).2 q hq);have hqo3:=eK (hs3.f.q (by decide)).1 hCA (fun k hk e=>by have:=(hs3.f.q (by decide)).2 k hk;omega);refine mq (xs:=L9.flatMap rdV) dm rfl rfl rfl (show World.ownsRow _ 0 54 4 (.slice (some ⟨gQ,0,none⟩) L9.length Qc) L9.length _ from hqo3) (by omega) ?_;intro w21 O4 P4;have hst:=aF.ack1 h3 hs3 hkL hCA (x:=({ L9[i].1 with acks:=eB L9[i].1.acks id },A32,c32)) rfl ho32 hL32 rfl O4 (by rw [←uu,←Nat.zero_add (i*4+3),←Nat.add_assoc];exact P4);obtain ⟨hs6,h6⟩:=hst;obtain ⟨L6,hL6⟩:∃ L6,L6=L9.set i ({ L9[i].1 with acks:=eB L9[i].1.acks id },A32,c32):=⟨_,rfl⟩;have hl6:L6.length=n:=by rw [hL6,List.length_set];exact hl9
    have hm6:(L9.set i ({ L9[i].1 with acks:=eB L9[i].1.acks id },A32,c32)).map (fun q=>q.1)=iK (kG id rn) s.reads (i+1):=by
     rw [List.map_set,hm9,←p9 hkr]
     congr 1
     rw [←h19];unfold kG;rw [if_pos hle]
    rw [hm6] at hs6 h6;obtain ⟨tg6,hs6⟩:∃ t,eN _ Z T g t ⟨({ s with reads:=iK (kG id rn) s.reads (i+1) }:Rf),out⟩ ⟨E,Ec,V,Vc,X,Xc,M,Mc,Sn,Sc,some ⟨gQ,0,none⟩,Qc,L6⟩ O oc L:=⟨_,by rw [hL6];exact hs6⟩;refine aq (bI (ah (ag (ab (cx (b:=1) rfl rfl (by omega)) (mvi rfl (aq ?_))))));refine cu ((i+1,tg6,L6)) ⟨(by first | rfl | (refine aZ ?_;omega)),trivial⟩ (by (iterate 48 refine bC rfl ?_);exact bP) ⟨?_,?_⟩
    ·exact ⟨by omega,hl6,h6.from_ ai.rfl_,hs6.from_ ai.rfl_⟩
    ·show n-(i+1)<n-i;omega
  have hsame:iK (kG id rn) s.reads (i+1)=iK (kG id rn) s.reads i:=tz hkr (by rw [←h19];unfold kG;rw [if_neg (by omega)]);obtain ⟨tg6,L6,hl6,h6,hs6⟩:∃ t l,List.length l=n∧aF w0 Z w4 T g ⟨({ s with reads:=iK (kG id rn) s.reads (i+1) }:Rf),out⟩∧eN w4 Z T g t ⟨({ s with reads:=iK (kG id rn) s.reads (i+1) }:Rf),out⟩ ⟨E,Ec,V,Vc,X,Xc,M,Mc,Sn,Sc,some ⟨gQ,0,none⟩,Qc,l⟩ O oc L:=⟨tg,L9,hl9,by rw [hsame];exact h3.from_ ai.rfl_,by rw [hsame];exact hs3.from_ ai.rfl_⟩;refine aI (bI (ah (ag (ab (cx (b:=1) rfl rfl (by omega)) (mvi rfl (aq ?_))))));refine cu ((i+1,tg6,L6)) ⟨(by first | rfl | (refine aZ ?_;omega)),trivial⟩ (by (iterate 36 refine bC rfl ?_);exact bP) ⟨?_,?_⟩
  ·exact ⟨by omega,hl6,h6.from_ ai.rfl_,hs6.from_ ai.rfl_⟩
  ·show n-(i+1)<n-i;omega
 obtain rfl:i=n:=by omega
 refine cL (bw (bw (cr (cK (dU rfl ?_)))));have e9:iK (kG id rn) s.reads i=s.reads.map (kG id rn):=by rw [hn,hln];exact yf
 rw [e9] at h5;exact ⟨rfl,h5.from_ (ai.rfl_ (a:=w1))⟩
theorem aF.rowX {w0 w w1 w2:World} {Z:Nat→Prop} {T g oc gQ k:Nat} {tag:Nat→Nat} {s:Rf} {out L:List Msg} {a:Ra} {O:Option Addr} {fq v:Int} (h:aF w0 Z w T g ⟨s,out⟩) (hs:eN w Z T g tag ⟨s,out⟩ a O oc L) (hk:fq=(k:Int)+1) (hA:a.X=some ⟨gQ,0,none⟩) (hF:ai w w1) (hO:dw gQ w1 w2)
 (hP:w2.ownsRow 0 3 1 (.slice (some ⟨gQ,0,none⟩) s.next.length a.Xc) s.next.length ((s.next.map iV).set k (iV v))):eN w2 Z T g (dO w.heap.size 2 tag) ⟨{ s with next:=ck s.next fq v },out⟩ a O oc L∧aF w0 Z w2 T g ⟨{ s with next:=ck s.next fq v },out⟩:=by
 subst hk;have hn:=hs.f.x (by decide);have hg:tag gQ=2:=hn.2 gQ (by rw [hA];rfl);have hC:Chg (fun k=>tag k=2) w w2:=(ai.toChg hF).only hO hg;have e:ck s.next ((k:Int)+1) v=s.next.set k v:=oC _ _ _
 have hP':w2.ownsRow 0 3 1 (.slice a.X (ck s.next ((k:Int)+1) v).length a.Xc) (ck s.next ((k:Int)+1) v).length ((ck s.next ((k:Int)+1) v).map iV):=by
  rw [e,List.length_set,←my,hA];exact hP
 have hf:=cJ.next (hs.f.but hC) (l:=ck s.next ((k:Int)+1) v) rfl hP' (fun q hq=>by rw [cy (dI hn.1 q hq)];exact hn.2 q hq)
 have hb:Blk w2 g T (rfV { s with next:=ck s.next ((k:Int)+1) v } a++[Value.slice O L.length oc]).toArray:=by
  have h9:=(hs.b.from_ hF).only hO (fun e=>by have:=hs.gc;rw [e,hg] at this;cases this);have e9:rfV { s with next:=ck s.next ((k:Int)+1) v } a=rfV s a:=by unfold rfV;simp only [eg]
  rw [e9];exact h9
 exact h.put (a':=a) hs hC (.inl (by decide)) hf (Chg.rfl_ (U:=fun k=>k=g)) hb
theorem aF.rowM {w0 w w1 w2:World} {Z:Nat→Prop} {T g oc gQ k:Nat} {tag:Nat→Nat} {s:Rf} {out L:List Msg} {a:Ra} {O:Option Addr} {fq v:Int} (h:aF w0 Z w T g ⟨s,out⟩) (hs:eN w Z T g tag ⟨s,out⟩ a O oc L) (hk:fq=(k:Int)+1) (hA:a.M=some ⟨gQ,0,none⟩) (hF:ai w w1) (hO:dw gQ w1 w2)
 (hP:w2.ownsRow 0 3 1 (.slice (some ⟨gQ,0,none⟩) s.mtch.length a.Mc) s.mtch.length ((s.mtch.map iV).set k (iV v))):eN w2 Z T g (dO w.heap.size 3 tag) ⟨{ s with mtch:=ck s.mtch fq v },out⟩ a O oc L∧aF w0 Z w2 T g ⟨{ s with mtch:=ck s.mtch fq v },out⟩:=by
 subst hk;have hn:=hs.f.m (by decide);have hg:tag gQ=3:=hn.2 gQ (by rw [hA];rfl);have hC:Chg (fun k=>tag k=3) w w2:=(ai.toChg hF).only hO hg;have e:ck s.mtch ((k:Int)+1) v=s.mtch.set k v:=oC _ _ _
 have hP':w2.ownsRow 0 3 1 (.slice a.M (ck s.mtch ((k:Int)+1) v).length a.Mc) (ck s.mtch ((k:Int)+1) v).length ((ck s.mtch ((k:Int)+1) v).map iV):=by
  rw [e,List.length_set,←my,hA];exact hP
 have hf:=cJ.mtch (hs.f.but hC) (l:=ck s.mtch ((k:Int)+1) v) rfl hP' (fun q hq=>by rw [cy (dI hn.1 q hq)];exact hn.2 q hq)
 have hb:Blk w2 g T (rfV { s with mtch:=ck s.mtch ((k:Int)+1) v } a++[Value.slice O L.length oc]).toArray:=by
  have h9:=(hs.b.from_ hF).only hO (fun e=>by have:=hs.gc;rw [e,hg] at this;cases this);have e9:rfV { s with mtch:=ck s.mtch ((k:Int)+1) v } a=rfV s a:=by unfold rfV;simp only [eg]
  rw [e9];exact h9
 exact h.put (a':=a) hs hC (.inl (by decide)) hf (Chg.rfl_ (U:=fun k=>k=g)) hb
theorem aF.rowS {w0 w w1 w2:World} {Z:Nat→Prop} {T g oc gQ k:Nat} {tag:Nat→Nat} {s:Rf} {out L:List Msg} {a:Ra} {O:Option Addr} {fq v:Int} (h:aF w0 Z w T g ⟨s,out⟩) (hs:eN w Z T g tag ⟨s,out⟩ a O oc L) (hk:fq=(k:Int)+1) (hA:a.S=some ⟨gQ,0,none⟩) (hF:ai w w1) (hO:dw gQ w1 w2)
 (hP:w2.ownsRow 0 3 1 (.slice (some ⟨gQ,0,none⟩) s.sent.length a.Sc) s.sent.length ((s.sent.map iV).set k (iV v))):eN w2 Z T g (dO w.heap.size 4 tag) ⟨{ s with sent:=ck s.sent fq v },out⟩ a O oc L∧aF w0 Z w2 T g ⟨{ s with sent:=ck s.sent fq v },out⟩:=by
 subst hk;have hn:=hs.f.n (by decide);have hg:tag gQ=4:=hn.2 gQ (by rw [hA];rfl);have hC:Chg (fun k=>tag k=4) w w2:=(ai.toChg hF).only hO hg;have e:ck s.sent ((k:Int)+1) v=s.sent.set k v:=oC _ _ _
 have hP':w2.ownsRow 0 3 1 (.slice a.S (ck s.sent ((k:Int)+1) v).length a.Sc) (ck s.sent ((k:Int)+1) v).length ((ck s.sent ((k:Int)+1) v).map iV):=by
  rw [e,List.length_set,←my,hA];exact hP
 have hf:=cJ.sent (hs.f.but hC) (l:=ck s.sent ((k:Int)+1) v) rfl hP' (fun q hq=>by rw [cy (dI hn.1 q hq)];exact hn.2 q hq)
 have hb:Blk w2 g T (rfV { s with sent:=ck s.sent ((k:Int)+1) v } a++[Value.slice O L.length oc]).toArray:=by
  have h9:=(hs.b.from_ hF).only hO (fun e=>by have:=hs.gc;rw [e,hg] at this;cases this);have e9:rfV { s with sent:=ck s.sent ((k:Int)+1) v } a=rfV s a:=by unfold rfV;simp only [eg]
  rw [e9];exact h9
 exact h.put (a':=a) hs hC (.inl (by decide)) hf (Chg.rfl_ (U:=fun k=>k=g)) hb
theorem iY {w:World} {q c k:Nat} {l:List Int} {v:Int} (ho:w.ownsRow 0 3 1 (.slice (some ⟨q,0,none⟩) l.length c) l.length (l.map iV)) (hk:k<l.length) (hv:l[k]=v):w.cell? ⟨q,k,none⟩=some (.int .i64 v):=by
 subst hv;exact gY (l:=l) ho k hk
theorem pC {l:List Int} {fq v:Int} {k:Nat} (hk:fq=(k:Int)+1) (h:k<(ck l fq v).length):(ck l fq v)[k]=v:=by
 subst hk;simp only [oC,List.getElem_set_self]
theorem mY {l:List Int} {fq:Int} {k:Nat} (hk:fq=(k:Int)+1) (h:k<l.length):at1 l fq=l[k]:=by
 subst hk;exact rU h
def j7 (s:Rf) (m:Msg):Sp:=if m.ix=s.b∧at1 s.next m.f≤s.b∧m.a≤(s.snap.size:Int) then Sp.send ⟨{ s with sent:=ck s.sent m.f m.a },[]⟩ m.f else ⟨s,[]⟩
theorem xB {s:Rf} {m:Msg} (h:s.role≠2):fV s m=⟨s,[]⟩:=by
 unfold fV;rw [if_pos h]
theorem xA {s:Rf} {m:Msg} (h:s.role=2) (hk:m.k=6):fV s m=j7 (jd s m.f m.rd) m:=by
 unfold fV j7;rw [if_neg (fun e=>e h)];simp only;rw [if_pos hk]
theorem xo {s:Rf} {m:Msg} (h:s.role=2) (hk:m.k=4) (ho:m.ok=false):fV s m=Sp.send ⟨{ jd s m.f m.rd with next:=ck s.next m.f (max (min (at1 s.next m.f-1) (m.ix+1)) (at1 s.mtch m.f+1)),sent:=ck s.sent m.f 0 },[]⟩ m.f:=by
 unfold fV;rw [if_neg (fun e=>e h)];simp only;rw [if_neg (by omega),if_pos ho];rfl
theorem xp {s:Rf} {m:Msg} (h:s.role=2) (hk:m.k=4) (ho:m.ok=true) (hi:aQ s<m.ix):fV s m=⟨jd s m.f m.rd,[]⟩:=by
 unfold fV;rw [if_neg (fun e=>e h)];simp only;rw [if_neg (by omega),if_neg (by rw [ho];decide),if_neg (by show ¬ m.ix≤aQ s;omega)]
def tT (s:Rf) (m:Msg):Rf:=cH { s with mtch:=ck s.mtch m.f (max (at1 s.mtch m.f) m.ix),next:=ck s.next m.f (max (at1 s.mtch m.f) m.ix+1),sent:=ck s.sent m.f 0 }
theorem tQ {s:Rf} {m:Msg} (h:s.role=2) (hk:m.k=4) (ho:m.ok=true) (hi:m.ix≤aQ s):fV s m=if max (at1 s.mtch m.f) m.ix+1≤aQ s then Sp.send ⟨tT (jd s m.f m.rd) m,[]⟩ m.f else ⟨tT (jd s m.f m.rd) m,[]⟩:=by
 unfold fV tT;rw [if_neg (fun e=>e h)];simp only;rw [if_neg (by omega),if_neg (by rw [ho];decide),if_pos (show m.ix≤aQ (jd s m.f m.rd) from hi)];rfl
theorem pd (w0:World) (Z:Nat→Prop) (T g:Nat) (s:Rf) (m:Msg) (w:World) (h:aF w0 Z w T g ⟨s,[]⟩) (hF:RfF s) (hr1:s.role=2) (hf:1≤m.f∧m.f≤s.nodes) (hma0:0≤m.a) :
 Rt prog 150 [.pointer (some ⟨g,0,none⟩),.agg (bT m).toArray] w (fun v w'=>v=.tuple #[]∧aF w0 Z w' T g (j7 s m)):=by
 obtain ⟨k,hk⟩:∃ k:Nat,m.f=(k:Int)+1:=⟨(m.f-1).toNat,by omega⟩;refine enter (n:=63) Tryz.func150 rfl rfl rfl (ao (ag (cj (v:=.agg _) rfl ?_)));intro b3 w1 E3 hb3 hk3;obtain ⟨wm,hwm⟩:∃ x,x=w1:=⟨_,rfl⟩
 have h3a:=h.at_ (Z':=fun k=>Z k∨k=b3) E3 (fun k hk=>by
  rcases hk with e | e
  ·exact ⟨Nat.lt_of_lt_of_le (h.zw k e) E3.size,.inl e⟩
  ·subst e;exact ⟨hk3.lt,.inr (by omega)⟩)
 obtain ⟨Z7,hZ7⟩:∃ Z7,Z7=fun k=>Z k∨k=b3:=⟨_,rfl⟩
 have h3:aF wm Z7 w1 T g ⟨s,[]⟩:=by
  rw [hZ7,hwm];exact h3a
 have hzi:∀ k,Z k→Z7 k:=fun k hk=>by rw [hZ7];exact .inl hk
 have hzb:Z7 b3:=by rw [hZ7];exact .inr rfl
 have hE3:ai w wm:=by rw [hwm];exact E3
 have hm9:Blk wm b3 39 (bT m).toArray:=by rw [hwm];exact hk3
 have hm3:=h3.kept hzb hm9;obtain ⟨tag5,⟨E,Ec,V,Vc,X,Xc,M,Mc,Sn,Sc,Q,Qc,LL⟩,O,oc,L,hs5⟩:=h3.ex;have hll5:=hs5.m.l;have hXl:s.next.length=s.nodes.toNat:=by rw [hF.nx.1,dP hr1]
 have hMl:s.mtch.length=s.nodes.toNat:=by rw [hF.ma.1,dP hr1]
 have hSl:s.sent.length=s.nodes.toNat:=by rw [hF.se.1,dP hr1]
 have hkX:k<s.next.length:=by omega
 have hkM:k<s.mtch.length:=by omega
 have hkS:k<s.sent.length:=by omega
 have hnx:=hF.nx.2 _ (List.getElem_mem hkX);have hma:=hF.ma.2 _ (List.getElem_mem hkM);have hnn:=hF.n;have hbl:=hF.last;obtain ⟨gX,rfl⟩:∃ q,X=some ⟨q,0,none⟩:=du (n:=s.next.length) (hs5.f.x (by decide)).1 (by omega);obtain ⟨gSn,rfl⟩:∃ q,Sn=some ⟨q,0,none⟩:=du (n:=s.sent.length) (hs5.f.n (by decide)).1 (by omega);have hXr:World.ownsRow _ 0 3 1 (.slice (some ⟨gX,0,none⟩) s.next.length Xc) s.next.length (s.next.map iV):=(hs5.f.x (by decide)).1;have hXc:=iY hXr hkX rfl;have hat:=mY (l:=s.next) hk hkX
 have hT4:(m.ix≠s.b)∨(m.ix=s.b∧s.b<at1 s.next m.f)∨(m.ix=s.b∧at1 s.next m.f≤s.b∧(s.snap.size:Int)<m.a)∨(m.ix=s.b∧at1 s.next m.f≤s.b∧m.a≤(s.snap.size:Int)):=by
  have:∀ a b c d e:Int,(a≠b)∨(a=b∧b<c)∨(a=b∧c≤b∧d<e)∨(a=b∧c≤b∧e≤d):=fun a b c d e=>by omega
  exact this _ _ _ _ _
 refine aq (ah (ao (ao ?_)));rcases hT4 with ht | ht | ht | ht
 ·apply br 43 [(4,eqp _),(5,eqp (.int .i64 m.ix)),(6,eqp _),(7,eqp _),(8,eqp _),(9,eqp _),(10,eqp _),(11,eqp _),(12,eqp (.int .i64 s.b)),(13,eqp _),(14,eqp _),(15,eqp _),(16,eqp _),(17,eqp _),(18,eqp _),(19,eqp _),(20,eqp _),(21,eqp _),(22,eqp _),(23,eqp _),(24,eqp _),(25,eqp _),(26,eqp _),(27,eqp _),(28,eqp _),(29,eqp _),(30,eqp _),(31,eqp _),(32,eqp _),(33,eqp _),(34,eqp _),(35,eqp _),(36,eqp _),(37,eqp _),(38,eqp _),(39,eqp _),(40,eqp _),(41,eqp _),(42,eqp _),(43,eqp _),(44,eqp _),(45,eqp _),(46,eqp _)] (by repeat first | exact bN | refine bM ?_ | refine bB ?_) (by kernel_rfl) (by kernel_rfl) ⟨ae _,ae _,ae _,ae _,ae _,ae _,ae _,ae _,ae _,ae _,ae _,ae _,ae _,ae _,ae _,ae _,ae _,ae _,ae _,ae _,ae _,ae _,ae _,ae _,ae _,ae _,ae _,ae _,ae _,ae _,ae _,ae _,ae _,ae _,ae _,ae _,ae _,ae _,ae _,ae _,ae _,ae _,ae _,trivial⟩
  case hop=>
   constructor
   ·rintro-w3 D3;exact an (aa bW rfl) rfl
   constructor
   ·rintro-w4 D4;rintro _ rfl;exact an (au ak rfl (by exact (show _=some (Value.int .i64 m.ix) from (hm3.from_ (ai.rfl_.next D4)).rd 4 rfl))) rfl
   constructor
   ·rintro-w5 D5;exact an (aC (v:=.pointer _) rfl) rfl
   constructor
   ·rintro-w6 D6;rintro _ rfl;exact an (av rfl) rfl
   constructor
   ·rintro-w7 D7;rintro _ rfl;exact an (aa ay rfl) rfl
   constructor
   ·rintro-w8 D8;rintro _ rfl;exact an (aa aw rfl) rfl
   constructor
   ·rintro-w9 D9;rintro _ rfl;exact an (aa bd rfl) rfl
   constructor
   ·rintro-w10 D10;rintro _ rfl;exact an (aa bY rfl) rfl
   constructor
   ·rintro-w11 D11;rintro _ rfl;exact an (au ak rfl (by exact (show _=some (Value.int .i64 s.b) from (h3.from_ (ai.rfl_.next D11)).rd (fun _=>rfl)))) rfl
   constructor
   ·rintro-w12 D12;rintro v12_5 rfl v12_12 rfl;exact an (dX (cz rfl rfl) (bne_iff_ne.2 (by omega))) rfl
   constructor
   ·rintro-w13 D13;rintro _ rfl;exact an (aC (v:=.bool _) rfl) rfl
   constructor
   ·rintro-w14 D14;rintro _ rfl;exact bA rfl rfl rfl
   constructor
   ·rintro-w15 D15;rintro _ rfl _ rfl;exact bA rfl rfl rfl
   constructor
   ·rintro-w16 D16;rintro _ rfl _ rfl;exact bA rfl rfl rfl
   constructor
   ·rintro-w17 D17;rintro _ rfl _ rfl;exact bA rfl rfl rfl
   constructor
   ·rintro-w18 D18;rintro _ rfl _ rfl;exact bA rfl rfl rfl
   constructor
   ·rintro-w19 D19;rintro _ rfl _ rfl;exact bA rfl rfl rfl
   constructor
   ·rintro-w20 D20;rintro _ rfl;exact bA rfl rfl rfl
   constructor
   ·rintro-w21 D21;rintro _ rfl _ rfl;exact bA rfl rfl rfl
   constructor
   ·rintro-w22 D22;rintro _ rfl _ rfl;exact bA rfl rfl rfl
   constructor
   ·rintro-w23 D23;rintro _ rfl _ rfl _ rfl;exact bA rfl rfl rfl
   constructor
   ·rintro-w24 D24;rintro _ rfl _ rfl;exact bA rfl rfl rfl
   constructor
   ·rintro-w25 D25;rintro _ rfl;exact bA rfl rfl rfl
   constructor
   ·rintro-w26 D26;rintro _ rfl _ rfl;exact bA rfl rfl rfl
   constructor
   ·rintro-w27 D27;rintro _ rfl _ rfl;exact bA rfl rfl rfl
   constructor
   ·rintro-w28 D28;rintro _ rfl _ rfl;exact bA rfl rfl rfl
   constructor
   ·rintro-w29 D29;rintro _ rfl _ rfl;exact bA rfl rfl rfl
   constructor
   ·rintro-w30 D30;rintro _ rfl _ rfl;exact bA rfl rfl rfl
   constructor
   ·rintro-w31 D31;rintro _ rfl _ rfl;exact bA rfl rfl rfl
   constructor
   ·rintro-w32 D32;rintro _ rfl _ rfl _ rfl;exact bA rfl rfl rfl
   constructor
   ·rintro-w33 D33;rintro _ rfl _ rfl;exact an (aJ (v:=.bool _) rfl rfl) rfl
   constructor
   ·rintro-w34 D34;rintro _ rfl;exact an (aC (v:=.bool _) rfl) rfl
   constructor
   ·rintro-w35 D35;rintro _ rfl;exact bA rfl rfl rfl
   constructor
   ·rintro-w36 D36;rintro _ rfl _ rfl;exact bA rfl rfl rfl
   constructor
   ·rintro-w37 D37;rintro _ rfl;exact bA rfl rfl rfl
   constructor
   ·rintro-w38 D38;rintro _ rfl _ rfl;exact bA rfl rfl rfl
   constructor
   ·rintro-w39 D39;rintro _ rfl _ rfl;exact bA rfl rfl rfl
   constructor
   ·rintro-w40 D40;rintro _ rfl _ rfl;exact bA rfl rfl rfl
   constructor
   ·rintro-w41 D41;rintro _ rfl _ rfl;exact bA rfl rfl rfl
   constructor
   ·rintro-w42 D42;rintro _ rfl _ rfl;exact bA rfl rfl rfl
   constructor
   ·rintro-w43 D43;rintro _ rfl _ rfl;exact bA rfl rfl rfl
   constructor
   ·rintro-w44 D44;rintro _ rfl _ rfl _ rfl;exact bA rfl rfl rfl
   constructor
   ·rintro-w45 D45;rintro _ rfl _ rfl;exact an (aJ (v:=.bool _) rfl rfl) rfl
   exact trivial
  case hend=>
   intro w46 D46;rintro _ rfl v5 rfl _ rfl _ rfl _ rfl _ rfl _ rfl _ rfl v12 rfl _ rfl _ rfl _ rfl _ rfl _ rfl _ rfl _ rfl _ rfl _ rfl _ rfl _ rfl _ rfl _ rfl _ rfl _ rfl _ rfl _ rfl _ rfl _ rfl _ rfl _ rfl _ rfl _ rfl _ rfl _ rfl _ rfl _ rfl _ rfl _ rfl _ rfl _ rfl _ rfl _ rfl _ rfl;show St ..;refine aq (ah (aW rfl (aG (aH (dU rfl ?_)))));unfold j7
   first
    |(rw [if_pos ⟨ht.1,ht.2.1,ht.2.2⟩];exact ⟨rfl,h.back hE3 (h8.from_ (ai.rfl_.next D46)) hzi⟩)
    |(rw [if_neg (by omega)];exact ⟨rfl,h.back hE3 (h3.from_ (ai.rfl_.next D46)) hzi⟩)
 ·apply br 43 [(4,eqp _),(5,eqp (.int .i64 m.ix)),(6,eqp _),(7,eqp _),(8,eqp _),(9,eqp _),(10,eqp _),(11,eqp _),(12,eqp (.int .i64 s.b)),(13,eqp _),(14,eqp _),(15,eqp _),(16,eqp _),(17,eqp _),(18,eqp _),(19,eqp _),(20,eqp (.slice (some ⟨gX,0,none⟩) s.next.length Xc)),(21,eqp _),(22,eqp _),(23,eqp (.int .i64 (k:Nat))),(24,eqp _),(25,eqp (.int .i64 s.next[k])),(26,eqp _),(27,eqp _),(28,eqp _),(29,eqp _),(30,eqp _),(31,eqp _),(32,eqp (.int .i64 s.b)),(33,eqp _),(34,eqp _),(35,eqp _),(36,eqp _),(37,eqp _),(38,eqp _),(39,eqp _),(40,eqp _),(41,eqp _),(42,eqp _),(43,eqp _),(44,eqp _),(45,eqp _),(46,eqp _)] (by repeat first | exact bN | refine bM ?_ | refine bB ?_) (by kernel_rfl) (by kernel_rfl) ⟨ae _,ae _,ae _,ae _,ae _,ae _,ae _,ae _,ae _,ae _,ae _,ae _,ae _,ae _,ae _,ae _,ae _,ae _,ae _,ae _,ae _,ae _,ae _,ae _,ae _,ae _,ae _,ae _,ae _,ae _,ae _,ae _,ae _,ae _,ae _,ae _,ae _,ae _,ae _,ae _,ae _,ae _,ae _,trivial⟩
  case hop=>
   constructor
   ·rintro-w48 D48;exact an (aa bW rfl) rfl
   constructor
   ·rintro-w49 D49;rintro _ rfl;exact an (au ak rfl (by exact (show _=some (Value.int .i64 m.ix) from (hm3.from_ (ai.rfl_.next D49)).rd 4 rfl))) rfl
   constructor
   ·rintro-w50 D50;exact an (aC (v:=.pointer _) rfl) rfl
   constructor
   ·rintro-w51 D51;rintro _ rfl;exact an (av rfl) rfl
   constructor
   ·rintro-w52 D52;rintro _ rfl;exact an (aa ay rfl) rfl
   constructor
   ·rintro-w53 D53;rintro _ rfl;exact an (aa aw rfl) rfl
   constructor
   ·rintro-w54 D54;rintro _ rfl;exact an (aa bd rfl) rfl
   constructor
   ·rintro-w55 D55;rintro _ rfl;exact an (aa bY rfl) rfl
   constructor
   ·rintro-w56 D56;rintro _ rfl;exact an (au ak rfl (by exact (show _=some (Value.int .i64 s.b) from (h3.from_ (ai.rfl_.next D56)).rd (fun _=>rfl)))) rfl
   constructor
   ·rintro-w57 D57;rintro v57_5 rfl v57_12 rfl;exact an (bL (cz rfl rfl) (by rw [bne_eq_false_iff_eq];omega)) rfl
   constructor
   ·rintro-w58 D58;rintro _ rfl;exact an (aC (v:=.bool _) rfl) rfl
   constructor
   ·rintro-w59 D59;rintro _ rfl;exact aD rfl (aC (v:=.pointer _) rfl) rfl
   constructor
   ·rintro-w60 D60;rintro _ rfl _ rfl;exact aD rfl (av rfl) rfl
   constructor
   ·rintro-w61 D61;rintro _ rfl _ rfl;exact aD rfl (aa ay rfl) rfl
   constructor
   ·rintro-w62 D62;rintro _ rfl _ rfl;exact aD rfl (aa aw rfl) rfl
   constructor
   ·rintro-w63 D63;rintro _ rfl _ rfl;exact aD rfl (aa ch rfl) rfl
   constructor
   ·rintro-w64 D64;rintro _ rfl _ rfl;exact aD rfl (au bj rfl (by exact (show _=some (Value.slice (some ⟨gX,0,none⟩) s.next.length Xc) from cB (hs5.b.from_ (ai.rfl_.next D64)) 15 rfl))) rfl
   constructor
   ·rintro-w65 D65;rintro _ rfl;exact aD rfl (aa bx rfl) rfl
   constructor
   ·rintro-w66 D66;rintro _ rfl _ rfl;exact aD rfl (au ak rfl (by exact (show _=some (Value.int .i64 m.f) from (hm3.from_ (ai.rfl_.next D66)).rd 1 rfl))) rfl
   constructor
   ·rintro-w67 D67;rintro _ rfl _ rfl;exact aD rfl (fg (dk rfl rfl (by omega)) (aZ (by omega))) rfl
   constructor
   ·rintro-w68 D68;rintro _ rfl v68_20 rfl v68_23 rfl;exact aD rfl (bS a_ rfl rfl (by omega)) rfl
   constructor
   ·rintro-w69 D69;rintro _ rfl _ rfl;exact aD rfl (au ak rfl (by exact eH (ai.rfl_.next D69) hXc)) rfl
   constructor
   ·rintro-w70 D70;rintro _ rfl;exact aD rfl (aC (v:=.pointer _) rfl) rfl
   constructor
   ·rintro-w71 D71;rintro _ rfl _ rfl;exact aD rfl (av rfl) rfl
   constructor
   ·rintro-w72 D72;rintro _ rfl _ rfl;exact aD rfl (aa ay rfl) rfl
   constructor
   ·rintro-w73 D73;rintro _ rfl _ rfl;exact aD rfl (aa aw rfl) rfl
   constructor
   ·rintro-w74 D74;rintro _ rfl _ rfl;exact aD rfl (aa bd rfl) rfl
   constructor
   ·rintro-w75 D75;rintro _ rfl _ rfl;exact aD rfl (aa bY rfl) rfl
   constructor
   ·rintro-w76 D76;rintro _ rfl _ rfl;exact aD rfl (au ak rfl (by exact (show _=some (Value.int .i64 s.b) from (h3.from_ (ai.rfl_.next D76)).rd (fun _=>rfl)))) rfl
   constructor
   ·rintro-w77 D77;rintro _ rfl v77_25 rfl v77_32 rfl;exact aD rfl (dX (ct rfl rfl) (decide_eq_true (by omega))) rfl
   constructor
   ·rintro-w78 D78;rintro _ rfl _ rfl;exact an (aB (v:=.bool _) rfl rfl) rfl
   constructor
   ·rintro-w79 D79;rintro _ rfl;exact an (aC (v:=.bool _) rfl) rfl
   constructor
   ·rintro-w80 D80;rintro _ rfl;exact bA rfl rfl rfl
   constructor
   ·rintro-w81 D81;rintro _ rfl _ rfl;exact bA rfl rfl rfl
   constructor
   ·rintro-w82 D82;rintro _ rfl;exact bA rfl rfl rfl
   constructor
   ·rintro-w83 D83;rintro _ rfl _ rfl;exact bA rfl rfl rfl
   constructor
   ·rintro-w84 D84;rintro _ rfl _ rfl;exact bA rfl rfl rfl
   constructor
   ·rintro-w85 D85;rintro _ rfl _ rfl;exact bA rfl rfl rfl
   constructor
   ·rintro-w86 D86;rintro _ rfl _ rfl;exact bA rfl rfl rfl
   constructor
   ·rintro-w87 D87;rintro _ rfl _ rfl;exact bA rfl rfl rfl
   constructor
   ·rintro-w88 D88;rintro _ rfl _ rfl;exact bA rfl rfl rfl
   constructor
   ·rintro-w89 D89;rintro _ rfl _ rfl _ rfl;exact bA rfl rfl rfl
   constructor
   ·rintro-w90 D90;rintro _ rfl _ rfl;exact an (aJ (v:=.bool _) rfl rfl) rfl
   exact trivial
  case hend=>
   intro w91 D91;rintro _ rfl v5 rfl _ rfl _ rfl _ rfl _ rfl _ rfl _ rfl v12 rfl _ rfl _ rfl _ rfl _ rfl _ rfl _ rfl _ rfl v20 rfl _ rfl _ rfl v23 rfl _ rfl v25 rfl _ rfl _ rfl _ rfl _ rfl _ rfl _ rfl v32 rfl _ rfl _ rfl _ rfl _ rfl _ rfl _ rfl _ rfl _ rfl _ rfl _ rfl _ rfl _ rfl _ rfl _ rfl;show St ..;refine aq (ah (aW rfl (aG (aH (dU rfl ?_)))));unfold j7
   first
    |(rw [if_pos ⟨ht.1,ht.2.1,ht.2.2⟩];exact ⟨rfl,h.back hE3 (h8.from_ (ai.rfl_.next D91)) hzi⟩)
    |(rw [if_neg (by omega)];exact ⟨rfl,h.back hE3 (h3.from_ (ai.rfl_.next D91)) hzi⟩)
 ·apply br 43 [(4,eqp _),(5,eqp (.int .i64 m.ix)),(6,eqp _),(7,eqp _),(8,eqp _),(9,eqp _),(10,eqp _),(11,eqp _),(12,eqp (.int .i64 s.b)),(13,eqp _),(14,eqp _),(15,eqp _),(16,eqp _),(17,eqp _),(18,eqp _),(19,eqp _),(20,eqp (.slice (some ⟨gX,0,none⟩) s.next.length Xc)),(21,eqp _),(22,eqp _),(23,eqp (.int .i64 (k:Nat))),(24,eqp _),(25,eqp (.int .i64 s.next[k])),(26,eqp _),(27,eqp _),(28,eqp _),(29,eqp _),(30,eqp _),(31,eqp _),(32,eqp (.int .i64 s.b)),(33,eqp _),(34,eqp _),(35,eqp _),(36,eqp _),(37,eqp (.int .i64 m.a)),(38,eqp _),(39,eqp _),(40,eqp _),(41,eqp _),(42,eqp _),(43,eqp (.string s.snap)),(44,eqp _),(45,eqp _),(46,eqp _)] (by repeat first | exact bN | refine bM ?_ | refine bB ?_) (by kernel_rfl) (by kernel_rfl) ⟨ae _,ae _,ae _,ae _,ae _,ae _,ae _,ae _,ae _,ae _,ae _,ae _,ae _,ae _,ae _,ae _,ae _,ae _,ae _,ae _,ae _,ae _,ae _,ae _,ae _,ae _,ae _,ae _,ae _,ae _,ae _,ae _,ae _,ae _,ae _,ae _,ae _,ae _,ae _,ae _,ae _,ae _,ae _,trivial⟩
  case hop=>
   constructor
   ·rintro-w93 D93;exact an (aa bW rfl) rfl
   constructor
   ·rintro-w94 D94;rintro _ rfl;exact an (au ak rfl (by exact (show _=some (Value.int .i64 m.ix) from (hm3.from_ (ai.rfl_.next D94)).rd 4 rfl))) rfl
   constructor
   ·rintro-w95 D95;exact an (aC (v:=.pointer _) rfl) rfl
   constructor
   ·rintro-w96 D96;rintro _ rfl;exact an (av rfl) rfl
   constructor
   ·rintro-w97 D97;rintro _ rfl;exact an (aa ay rfl) rfl
   constructor
   ·rintro-w98 D98;rintro _ rfl;exact an (aa aw rfl) rfl
   constructor
   ·rintro-w99 D99;rintro _ rfl;exact an (aa bd rfl) rfl
   constructor
   ·rintro-w100 D100;rintro _ rfl;exact an (aa bY rfl) rfl
   constructor
   ·rintro-w101 D101;rintro _ rfl;exact an (au ak rfl (by exact (show _=some (Value.int .i64 s.b) from (h3.from_ (ai.rfl_.next D101)).rd (fun _=>rfl)))) rfl
   constructor
   ·rintro-w102 D102;rintro v102_5 rfl v102_12 rfl;exact an (bL (cz rfl rfl) (by rw [bne_eq_false_iff_eq];omega)) rfl
   constructor
   ·rintro-w103 D103;rintro _ rfl;exact an (aC (v:=.bool _) rfl) rfl
   constructor
   ·rintro-w104 D104;rintro _ rfl;exact aD rfl (aC (v:=.pointer _) rfl) rfl
   constructor
   ·rintro-w105 D105;rintro _ rfl _ rfl;exact aD rfl (av rfl) rfl
   constructor
   ·rintro-w106 D106;rintro _ rfl _ rfl;exact aD rfl (aa ay rfl) rfl
   constructor
   ·rintro-w107 D107;rintro _ rfl _ rfl;exact aD rfl (aa aw rfl) rfl
   constructor
   ·rintro-w108 D108;rintro _ rfl _ rfl;exact aD rfl (aa ch rfl) rfl
   constructor
   ·rintro-w109 D109;rintro _ rfl _ rfl;exact aD rfl (au bj rfl (by exact (show _=some (Value.slice (some ⟨gX,0,none⟩) s.next.length Xc) from cB (hs5.b.from_ (ai.rfl_.next D109)) 15 rfl))) rfl
   constructor
   ·rintro-w110 D110;rintro _ rfl;exact aD rfl (aa bx rfl) rfl
   constructor
   ·rintro-w111 D111;rintro _ rfl _ rfl;exact aD rfl (au ak rfl (by exact (show _=some (Value.int .i64 m.f) from (hm3.from_ (ai.rfl_.next D111)).rd 1 rfl))) rfl
   constructor
   ·rintro-w112 D112;rintro _ rfl _ rfl;exact aD rfl (fg (dk rfl rfl (by omega)) (aZ (by omega))) rfl
   constructor
   ·rintro-w113 D113;rintro _ rfl v113_20 rfl v113_23 rfl;exact aD rfl (bS a_ rfl rfl (by omega)) rfl
   constructor
   ·rintro-w114 D114;rintro _ rfl _ rfl;exact aD rfl (au ak rfl (by exact eH (ai.rfl_.next D114) hXc)) rfl
   constructor
   ·rintro-w115 D115;rintro _ rfl;exact aD rfl (aC (v:=.pointer _) rfl) rfl
   constructor
   ·rintro-w116 D116;rintro _ rfl _ rfl;exact aD rfl (av rfl) rfl
   constructor
   ·rintro-w117 D117;rintro _ rfl _ rfl;exact aD rfl (aa ay rfl) rfl
   constructor
   ·rintro-w118 D118;rintro _ rfl _ rfl;exact aD rfl (aa aw rfl) rfl
   constructor
   ·rintro-w119 D119;rintro _ rfl _ rfl;exact aD rfl (aa bd rfl) rfl
   constructor
   ·rintro-w120 D120;rintro _ rfl _ rfl;exact aD rfl (aa bY rfl) rfl
   constructor
   ·rintro-w121 D121;rintro _ rfl _ rfl;exact aD rfl (au ak rfl (by exact (show _=some (Value.int .i64 s.b) from (h3.from_ (ai.rfl_.next D121)).rd (fun _=>rfl)))) rfl
   constructor
   ·rintro-w122 D122;rintro _ rfl v122_25 rfl v122_32 rfl;exact aD rfl (bL (ct rfl rfl) (decide_eq_false (by omega))) rfl
   constructor
   ·rintro-w123 D123;rintro _ rfl _ rfl;exact an (aB (v:=.bool _) rfl rfl) rfl
   constructor
   ·rintro-w124 D124;rintro _ rfl;exact an (aC (v:=.bool _) rfl) rfl
   constructor
   ·rintro-w125 D125;rintro _ rfl;exact aD rfl (aa dd rfl) rfl
   constructor
   ·rintro-w126 D126;rintro _ rfl _ rfl;exact aD rfl (au ak rfl (by exact (show _=some (Value.int .i64 m.a) from (hm3.from_ (ai.rfl_.next D126)).rd 10 rfl))) rfl
   constructor
   ·rintro-w127 D127;rintro _ rfl;exact aD rfl (aC (v:=.pointer _) rfl) rfl
   constructor
   ·rintro-w128 D128;rintro _ rfl _ rfl;exact aD rfl (av rfl) rfl
   constructor
   ·rintro-w129 D129;rintro _ rfl _ rfl;exact aD rfl (aa ay rfl) rfl
   constructor
   ·rintro-w130 D130;rintro _ rfl _ rfl;exact aD rfl (aa aw rfl) rfl
   constructor
   ·rintro-w131 D131;rintro _ rfl _ rfl;exact aD rfl (aa dD rfl) rfl
   constructor
   ·rintro-w132 D132;rintro _ rfl _ rfl;exact aD rfl (au bQ rfl (by exact (show _=some (Value.string s.snap) from (h3.from_ (ai.rfl_.next D132)).rd (fun _=>rfl)))) rfl
   constructor
   ·rintro-w133 D133;rintro _ rfl v133_43 rfl;exact aD rfl (dA (by kernel_rfl) rfl) rfl
   constructor
   ·rintro-w134 D134;rintro _ rfl v134_37 rfl _ rfl;exact aD rfl (dX (ct rfl rfl) (decide_eq_true (by omega))) rfl
   constructor
   ·rintro-w135 D135;rintro _ rfl _ rfl;exact an (aB (v:=.bool _) rfl rfl) rfl
   exact trivial
  case hend=>
   intro w136 D136;rintro _ rfl v5 rfl _ rfl _ rfl _ rfl _ rfl _ rfl _ rfl v12 rfl _ rfl _ rfl _ rfl _ rfl _ rfl _ rfl _ rfl v20 rfl _ rfl _ rfl v23 rfl _ rfl v25 rfl _ rfl _ rfl _ rfl _ rfl _ rfl _ rfl v32 rfl _ rfl _ rfl _ rfl _ rfl v37 rfl _ rfl _ rfl _ rfl _ rfl _ rfl v43 rfl _ rfl _ rfl _ rfl;show St ..;refine aq (ah (aW rfl (aG (aH (dU rfl ?_)))));unfold j7
   first
    |(rw [if_pos ⟨ht.1,ht.2.1,ht.2.2⟩];exact ⟨rfl,h.back hE3 (h8.from_ (ai.rfl_.next D136)) hzi⟩)
    |(rw [if_neg (by omega)];exact ⟨rfl,h.back hE3 (h3.from_ (ai.rfl_.next D136)) hzi⟩)
 apply br 43 [(4,eqp _),(5,eqp (.int .i64 m.ix)),(6,eqp _),(7,eqp _),(8,eqp _),(9,eqp _),(10,eqp _),(11,eqp _),(12,eqp (.int .i64 s.b)),(13,eqp _),(14,eqp _),(15,eqp _),(16,eqp _),(17,eqp _),(18,eqp _),(19,eqp _),(20,eqp (.slice (some ⟨gX,0,none⟩) s.next.length Xc)),(21,eqp _),(22,eqp _),(23,eqp (.int .i64 (k:Nat))),(24,eqp _),(25,eqp (.int .i64 s.next[k])),(26,eqp _),(27,eqp _),(28,eqp _),(29,eqp _),(30,eqp _),(31,eqp _),(32,eqp (.int .i64 s.b)),(33,eqp _),(34,eqp _),(35,eqp _),(36,eqp _),(37,eqp (.int .i64 m.a)),(38,eqp _),(39,eqp _),(40,eqp _),(41,eqp _),(42,eqp _),(43,eqp (.string s.snap)),(44,eqp _),(45,eqp _),(46,eqp _)] (by repeat first | exact bN | refine bM ?_ | refine bB ?_) (by kernel_rfl) (by kernel_rfl) ⟨ae _,ae _,ae _,ae _,ae _,ae _,ae _,ae _,ae _,ae _,ae _,ae _,ae _,ae _,ae _,ae _,ae _,ae _,ae _,ae _,ae _,ae _,ae _,ae _,ae _,ae _,ae _,ae _,ae _,ae _,ae _,ae _,ae _,ae _,ae _,ae _,ae _,ae _,ae _,ae _,ae _,ae _,ae _,trivial⟩
 case hop=>
  constructor
  ·rintro-w138 D138;exact an (aa bW rfl) rfl
  constructor
  ·rintro-w139 D139;rintro _ rfl;exact an (au ak rfl (by exact (show _=some (Value.int .i64 m.ix) from (hm3.from_ (ai.rfl_.next D139)).rd 4 rfl))) rfl
  constructor
  ·rintro-w140 D140;exact an (aC (v:=.pointer _) rfl) rfl
  constructor
  ·rintro-w141 D141;rintro _ rfl;exact an (av rfl) rfl
  constructor
  ·rintro-w142 D142;rintro _ rfl;exact an (aa ay rfl) rfl
  constructor
  ·rintro-w143 D143;rintro _ rfl;exact an (aa aw rfl) rfl
  constructor
  ·rintro-w144 D144;rintro _ rfl;exact an (aa bd rfl) rfl
  constructor
  ·rintro-w145 D145;rintro _ rfl;exact an (aa bY rfl) rfl
  constructor
  ·rintro-w146 D146;rintro _ rfl;exact an (au ak rfl (by exact (show _=some (Value.int .i64 s.b) from (h3.from_ (ai.rfl_.next D146)).rd (fun _=>rfl)))) rfl
  constructor
  ·rintro-w147 D147;rintro v147_5 rfl v147_12 rfl;exact an (bL (cz rfl rfl) (by rw [bne_eq_false_iff_eq];omega)) rfl
  constructor
  ·rintro-w148 D148;rintro _ rfl;exact an (aC (v:=.bool _) rfl) rfl
  constructor
  ·rintro-w149 D149;rintro _ rfl;exact aD rfl (aC (v:=.pointer _) rfl) rfl
  constructor
  ·rintro-w150 D150;rintro _ rfl _ rfl;exact aD rfl (av rfl) rfl
  constructor
  ·rintro-w151 D151;rintro _ rfl _ rfl;exact aD rfl (aa ay rfl) rfl
  constructor
  ·rintro-w152 D152;rintro _ rfl _ rfl;exact aD rfl (aa aw rfl) rfl
  constructor
  ·rintro-w153 D153;rintro _ rfl _ rfl;exact aD rfl (aa ch rfl) rfl
  constructor
  ·rintro-w154 D154;rintro _ rfl _ rfl;exact aD rfl (au bj rfl (by exact (show _=some (Value.slice (some ⟨gX,0,none⟩) s.next.length Xc) from cB (hs5.b.from_ (ai.rfl_.next D154)) 15 rfl))) rfl
  constructor
  ·rintro-w155 D155;rintro _ rfl;exact aD rfl (aa bx rfl) rfl
  constructor
  ·rintro-w156 D156;rintro _ rfl _ rfl;exact aD rfl (au ak rfl (by exact (show _=some (Value.int .i64 m.f) from (hm3.from_ (ai.rfl_.next D156)).rd 1 rfl))) rfl
  constructor
  ·rintro-w157 D157;rintro _ rfl _ rfl;exact aD rfl (fg (dk rfl rfl (by omega)) (aZ (by omega))) rfl
  constructor
  ·rintro-w158 D158;rintro _ rfl v158_20 rfl v158_23 rfl;exact aD rfl (bS a_ rfl rfl (by omega)) rfl
  constructor
  ·rintro-w159 D159;rintro _ rfl _ rfl;exact aD rfl (au ak rfl (by exact eH (ai.rfl_.next D159) hXc)) rfl
  constructor
  ·rintro-w160 D160;rintro _ rfl;exact aD rfl (aC (v:=.pointer _) rfl) rfl
  constructor
  ·rintro-w161 D161;rintro _ rfl _ rfl;exact aD rfl (av rfl) rfl
  constructor
  ·rintro-w162 D162;rintro _ rfl _ rfl;exact aD rfl (aa ay rfl) rfl
  constructor
  ·rintro-w163 D163;rintro _ rfl _ rfl;exact aD rfl (aa aw rfl) rfl
  constructor
  ·rintro-w164 D164;rintro _ rfl _ rfl;exact aD rfl (aa bd rfl) rfl
  constructor
  ·rintro-w165 D165;rintro _ rfl _ rfl;exact aD rfl (aa bY rfl) rfl
  constructor
  ·rintro-w166 D166;rintro _ rfl _ rfl;exact aD rfl (au ak rfl (by exact (show _=some (Value.int .i64 s.b) from (h3.from_ (ai.rfl_.next D166)).rd (fun _=>rfl)))) rfl
  constructor
  ·rintro-w167 D167;rintro _ rfl v167_25 rfl v167_32 rfl;exact aD rfl (bL (ct rfl rfl) (decide_eq_false (by omega))) rfl
  constructor
  ·rintro-w168 D168;rintro _ rfl _ rfl;exact an (aB (v:=.bool _) rfl rfl) rfl
  constructor
  ·rintro-w169 D169;rintro _ rfl;exact an (aC (v:=.bool _) rfl) rfl
  constructor
  ·rintro-w170 D170;rintro _ rfl;exact aD rfl (aa dd rfl) rfl
  constructor
  ·rintro-w171 D171;rintro _ rfl _ rfl;exact aD rfl (au ak rfl (by exact (show _=some (Value.int .i64 m.a) from (hm3.from_ (ai.rfl_.next D171)).rd 10 rfl))) rfl
  constructor
  ·rintro-w172 D172;rintro _ rfl;exact aD rfl (aC (v:=.pointer _) rfl) rfl
  constructor
  ·rintro-w173 D173;rintro _ rfl _ rfl;exact aD rfl (av rfl) rfl
  constructor
  ·rintro-w174 D174;rintro _ rfl _ rfl;exact aD rfl (aa ay rfl) rfl
  constructor
  ·rintro-w175 D175;rintro _ rfl _ rfl;exact aD rfl (aa aw rfl) rfl
  constructor
  ·rintro-w176 D176;rintro _ rfl _ rfl;exact aD rfl (aa dD rfl) rfl
  constructor
  ·rintro-w177 D177;rintro _ rfl _ rfl;exact aD rfl (au bQ rfl (by exact (show _=some (Value.string s.snap) from (h3.from_ (ai.rfl_.next D177)).rd (fun _=>rfl)))) rfl
  constructor
  ·rintro-w178 D178;rintro _ rfl v178_43 rfl;exact aD rfl (dA (by kernel_rfl) rfl) rfl
  constructor
  ·rintro-w179 D179;rintro _ rfl v179_37 rfl _ rfl;exact aD rfl (bL (ct rfl rfl) (decide_eq_false (by omega))) rfl
  constructor
  ·rintro-w180 D180;rintro _ rfl _ rfl;exact an (aB (v:=.bool _) rfl rfl) rfl
  exact trivial
 case hend=>
  intro w181 D181;rintro _ rfl v5 rfl _ rfl _ rfl _ rfl _ rfl _ rfl _ rfl v12 rfl _ rfl _ rfl _ rfl _ rfl _ rfl _ rfl _ rfl v20 rfl _ rfl _ rfl v23 rfl _ rfl v25 rfl _ rfl _ rfl _ rfl _ rfl _ rfl _ rfl v32 rfl _ rfl _ rfl _ rfl _ rfl v37 rfl _ rfl _ rfl _ rfl _ rfl _ rfl v43 rfl _ rfl _ rfl _ rfl;show St ..;refine aq (ah (aU rfl (aI (ah (ao ?_)))));apply br 12 [(47,eqp _),(48,eqp _),(49,eqp _),(50,eqp _),(51,eqp _),(52,eqp (.slice (some ⟨gSn,0,none⟩) s.sent.length Sc)),(53,eqp _),(54,eqp (.int .i64 m.f)),(55,eqp (.int .i64 (k:Nat))),(56,eqp _),(57,eqp (.int .i64 m.a)),(58,eqp _)] (by repeat first | exact bN | refine bM ?_ | refine bB ?_) (by kernel_rfl) (by kernel_rfl) ⟨ae _,ae _,ae _,ae _,ae _,ae _,ae _,ae _,ae _,ae _,ae _,ae _,trivial⟩
  case hop=>
   constructor
   ·rintro-w183 D183;exact an (aC (v:=.pointer _) rfl) rfl
   constructor
   ·rintro-w184 D184;rintro _ rfl;exact an (av rfl) rfl
   constructor
   ·rintro-w185 D185;rintro _ rfl;exact an (aa ay rfl) rfl
   constructor
   ·rintro-w186 D186;rintro _ rfl;exact an (aa aw rfl) rfl
   constructor
   ·rintro-w187 D187;rintro _ rfl;exact an (aa dc rfl) rfl
   constructor
   ·rintro-w188 D188;rintro _ rfl;exact an (au bj rfl (by exact (show _=some (Value.slice (some ⟨gSn,0,none⟩) s.sent.length Sc) from cB (hs5.b.from_ ((ai.rfl_.next D181).next D188)) 17 rfl))) rfl
   constructor
   ·rintro-w189 D189;exact an (aa bx rfl) rfl
   constructor
   ·rintro-w190 D190;rintro _ rfl;exact an (au ak rfl (by exact (show _=some (Value.int .i64 m.f) from (hm3.from_ ((ai.rfl_.next D181).next D190)).rd 1 rfl))) rfl
   constructor
   ·rintro-w191 D191;rintro v191_54 rfl;exact an (fg (dk rfl rfl (by omega)) (aZ (by omega))) rfl
   constructor
   ·rintro-w192 D192;exact an (aa dd rfl) rfl
   constructor
   ·rintro-w193 D193;rintro _ rfl;exact an (au ak rfl (by exact (show _=some (Value.int .i64 m.a) from (hm3.from_ ((ai.rfl_.next D181).next D193)).rd 10 rfl))) rfl
   constructor
   ·rintro-w194 D194;rintro v194_52 rfl v194_55 rfl;exact an (bS a_ rfl rfl (by omega)) rfl
   exact trivial
  case hend=>
   intro w195 D195;rintro _ rfl _ rfl _ rfl _ rfl _ rfl v52 rfl _ rfl v54 rfl v55 rfl _ rfl v57 rfl _ rfl;show St ..;have hMq2:ai _ w195:=((ai.rfl_.next D181).next D195);refine fG (xs:=s.sent.map iV) bh rfl rfl rfl (show World.ownsRow _ 0 3 1 (.slice (some ⟨gSn,0,none⟩) s.sent.length _) s.sent.length _ from (hs5.f.n (by decide)).1.kept_from hMq2) (by show k<s.sent.length;omega) ?_;intro w196 Oq2 Pq2;obtain ⟨hs6,h6⟩:=aF.rowS h3 hs5 hk rfl hMq2 Oq2 (v:=m.a) Pq2;refine aq (ah (ag (mvp rfl (ab (aa bx rfl) (ab (au ak rfl (by exact (show _=some (Value.int .i64 m.f) from ((h6.kept hzb hm9).from_ ai.rfl_).rd 1 rfl))) ?_)))));refine aE je (l5 wm Z7 T g ⟨({ s with sent:=ck s.sent m.f m.a }:Rf),[]⟩ _ (h6.from_ ai.rfl_) (hF.sentPut ⟨hma0,by omega⟩) hr1 (Nat.zero_le _) m.f hf) ?_;rintro v62 w197 ⟨rfl,h8⟩;refine aq (cK (dU rfl ?_));unfold j7
   first
    |(rw [if_pos ⟨ht.1,ht.2.1,ht.2.2⟩];exact ⟨rfl,h.back hE3 (h8.from_ ai.rfl_) hzi⟩)
    |(rw [if_neg (by omega)];exact ⟨rfl,h.back hE3 (h3.from_ ai.rfl_) hzi⟩)
theorem xz (w0:World) (Z:Nat→Prop) (T g:Nat) (s:Rf) (m:Msg) (w:World) (h:aF w0 Z w T g ⟨s,[]⟩) (hro:s.role≠2) :
 Rt prog 104 [.pointer (some ⟨g,0,none⟩),.agg (bT m).toArray] w (fun v w'=>v=.tuple #[]∧aF w0 Z w' T g (fV s m)):=by
 refine enter (n:=129) Tryz.func104 rfl rfl rfl (ao (ag (cj (v:=.agg _) rfl ?_)));intro b3 w1 E3 hb3 hk3;obtain ⟨wm,hwm⟩:∃ x,x=w1:=⟨_,rfl⟩
 have h3a:=h.at_ (Z':=fun k=>Z k∨k=b3) E3 (fun k hk=>by
  rcases hk with e | e
  ·exact ⟨Nat.lt_of_lt_of_le (h.zw k e) E3.size,.inl e⟩
  ·subst e;exact ⟨hk3.lt,.inr (by omega)⟩)
 obtain ⟨Z7,hZ7⟩:∃ Z7,Z7=fun k=>Z k∨k=b3:=⟨_,rfl⟩
 have h3:aF wm Z7 w1 T g ⟨s,[]⟩:=by
  rw [hZ7,hwm];exact h3a
 have hzi:∀ k,Z k→Z7 k:=fun k hk=>by rw [hZ7];exact .inl hk
 have hzb:Z7 b3:=by rw [hZ7];exact .inr rfl
 have hE3:ai w wm:=by rw [hwm];exact E3
 have hm9:Blk wm b3 39 (bT m).toArray:=by rw [hwm];exact hk3
 have hm3:=h3.kept hzb hm9;refine aq (ah (ao (ao (ag (mvp rfl (ab (av rfl) (ab (aa ay rfl) (ab (aa aw rfl) (ab (aa c6 rfl) (ab (au ak rfl (by exact (show _=some (Value.int .i64 s.role) from (h3.from_ ai.rfl_).rd (fun _=>rfl)))) ?_))))))))));refine ab (dX (cz rfl rfl) (bne_iff_ne.2 hro)) (aq (ah (aW rfl (aG (aH (dU rfl ?_))))));rw [xB hro];exact ⟨rfl,h.from_ (E3.next ai.rfl_)⟩
theorem xr (w0:World) (Z:Nat→Prop) (T g:Nat) (s:Rf) (m:Msg) (w:World) (h:aF w0 Z w T g ⟨s,[]⟩) (hF:RfF s) (hf:1≤m.f∧m.f≤s.nodes) (hro:s.role=2) (hk6:m.k=6) (hma0:0≤m.a) :
 Rt prog 104 [.pointer (some ⟨g,0,none⟩),.agg (bT m).toArray] w (fun v w'=>v=.tuple #[]∧aF w0 Z w' T g (fV s m)):=by
 refine enter (n:=129) Tryz.func104 rfl rfl rfl (ao (ag (cj (v:=.agg _) rfl ?_)));intro b3 w1 E3 hb3 hk3;obtain ⟨wm,hwm⟩:∃ x,x=w1:=⟨_,rfl⟩
 have h3a:=h.at_ (Z':=fun k=>Z k∨k=b3) E3 (fun k hk=>by
  rcases hk with e | e
  ·exact ⟨Nat.lt_of_lt_of_le (h.zw k e) E3.size,.inl e⟩
  ·subst e;exact ⟨hk3.lt,.inr (by omega)⟩)
 obtain ⟨Z7,hZ7⟩:∃ Z7,Z7=fun k=>Z k∨k=b3:=⟨_,rfl⟩
 have h3:aF wm Z7 w1 T g ⟨s,[]⟩:=by
  rw [hZ7,hwm];exact h3a
 have hzi:∀ k,Z k→Z7 k:=fun k hk=>by rw [hZ7];exact .inl hk
 have hzb:Z7 b3:=by rw [hZ7];exact .inr rfl
 have hE3:ai w wm:=by rw [hwm];exact E3
 have hm9:Blk wm b3 39 (bT m).toArray:=by rw [hwm];exact hk3
 have hm3:=h3.kept hzb hm9;refine aq (ah (ao (ao (ag (mvp rfl (ab (av rfl) (ab (aa ay rfl) (ab (aa aw rfl) (ab (aa c6 rfl) (ab (au ak rfl (by exact (show _=some (Value.int .i64 s.role) from (h3.from_ ai.rfl_).rd (fun _=>rfl)))) ?_))))))))));refine ab (bL (cz rfl rfl) (by rw [hro];rfl)) ?_;refine aq (ah (aU rfl (aI (ah (ao ?_)))));apply eE [(0,15,fun _ v _=>v=_),(1,16,fun _ v _=>v=_),(2,17,fun _ v _=>v=_),(3,18,fun _ v _=>v=_),(4,19,fun S v w9=>S 7=false→(eqp (.int .i64 m.f)) v w9),(5,20,fun _ v _=>v=_),(6,21,fun S v w9=>S 7=false→(eqp (.int .i64 m.rd)) v w9),(7,22,fun _ v _=>v=_)] [7] (fun S w'=>(S 7=false→ai w1 w')∧(S 7=true→aF wm Z7 w' T g ⟨jd s m.f m.rd,[]⟩)) (by kernel_rfl) (by kernel_rfl) rfl rfl ⟨fun _ _ _ _ _ _ _ h=>h,fun _ _ _ _ _ _ _ h=>h,fun _ _ _ _ _ _ _ h=>h,fun _ _ _ _ _ _ _ h=>h,fun S i v w1 w2 hq hF h h0=>(ae _) v w1 w2 hF (h (en h0)),fun _ _ _ _ _ _ _ h=>h,fun S i v w1 w2 hq hF h h0=>(ae _) v w1 w2 hF (h (en h0)),fun _ _ _ _ _ _ _ h=>h,trivial⟩ (fun S i w1 w2 hq hF h=>⟨fun h0=>(h.1 (en h0)).next hF,fun h1=>(fun h=>h.from_ hF) (h.2 (jn (show 7≠i by rintro rfl;exact absurd hq (by decide)) h1))⟩) ⟨fun _=>ai.rfl_.d1,fun h=>by cases h⟩
 case hstep=>
  constructor
  ·rintro S L' w2 hU hmo hme hI hM hC hS ⟨-⟩;have hS0:S 7=false:=(af hC (j:=7) rfl (by kernel_rfl) (af hC (j:=2) rfl (by kernel_rfl) (af hC (j:=1) rfl (by kernel_rfl) hS)));have hM2:=hM.1 hS0;have e0:=hI.1 0 (dy rfl);exact az [(0,_)] hU hmo hme hI hM (.head _) rfl rfl (by kernel_rfl) ⟨e0,trivial⟩ (aC (v:=.pointer _) rfl) ai.rfl_ (rfl)
  constructor
  ·rintro S L' w3 hU hmo hme hI hM hC hS ⟨d0,-⟩;have hS0:S 7=false:=(af hC (j:=7) rfl (by kernel_rfl) (af hC (j:=2) rfl (by kernel_rfl) hS));have hM3:=hM.1 hS0;obtain ⟨v3_15,e15,h15⟩:=hI.get (i:=0) (.head _) d0;obtain rfl:=h15;exact az [(15,_)] hU hmo hme hI hM (.tail _ (.head _)) rfl rfl (by kernel_rfl) ⟨e15,trivial⟩ (av rfl) ai.rfl_ (rfl)
  constructor
  ·rintro S L' w4 hU hmo hme hI hM hC hS ⟨d1,-⟩;have hS0:S 7=false:=(af hC (j:=7) rfl (by kernel_rfl) hS);have hM4:=hM.1 hS0;obtain ⟨v4_16,e16,h16⟩:=hI.get (i:=1) (.tail _ (.head _)) d1;obtain rfl:=h16;exact az [(16,_)] hU hmo hme hI hM (gM 2 rfl) rfl rfl (by kernel_rfl) ⟨e16,trivial⟩ (aa ay rfl) ai.rfl_ (rfl)
  constructor
  ·rintro S L' w5 hU hmo hme hI hM hC hS ⟨-⟩;have hS0:S 7=false:=(af hC (j:=7) rfl (by kernel_rfl) (af hC (j:=4) rfl (by kernel_rfl) hS));have hM5:=hM.1 hS0;have e3:=hI.1 3 (dy rfl);exact az [(3,_)] hU hmo hme hI hM (gM 3 rfl) rfl rfl (by kernel_rfl) ⟨e3,trivial⟩ (aa bx rfl) ai.rfl_ (rfl)
  constructor
  ·rintro S L' w6 hU hmo hme hI hM hC hS ⟨d3,-⟩;have hS0:S 7=false:=(af hC (j:=7) rfl (by kernel_rfl) hS);have hM6:=hM.1 hS0;obtain ⟨v6_18,e18,h18⟩:=hI.get (i:=3) (gM 3 rfl) d3;obtain rfl:=h18;exact az [(18,_)] hU hmo hme hI hM (gM 4 rfl) rfl rfl (by kernel_rfl) ⟨e18,trivial⟩ (au ak rfl (by exact (show _=some (Value.int .i64 m.f) from (hm3.from_ (ai.rfl_.next hM6)).rd 1 rfl))) ai.rfl_ (fun _=>rfl)
  constructor
  ·rintro S L' w7 hU hmo hme hI hM hC hS ⟨-⟩;have hS0:S 7=false:=(af hC (j:=7) rfl (by kernel_rfl) (af hC (j:=6) rfl (by kernel_rfl) hS));have hM7:=hM.1 hS0;have e3:=hI.1 3 (dy rfl);exact az [(3,_)] hU hmo hme hI hM (gM 5 rfl) rfl rfl (by kernel_rfl) ⟨e3,trivial⟩ (aa dg rfl) ai.rfl_ (rfl)
  constructor
  ·rintro S L' w8 hU hmo hme hI hM hC hS ⟨d5,-⟩;have hS0:S 7=false:=(af hC (j:=7) rfl (by kernel_rfl) hS);have hM8:=hM.1 hS0;obtain ⟨v8_20,e20,h20⟩:=hI.get (i:=5) (gM 5 rfl) d5;obtain rfl:=h20;exact az [(20,_)] hU hmo hme hI hM (gM 6 rfl) rfl rfl (by kernel_rfl) ⟨e20,trivial⟩ (au ak rfl (by exact (show _=some (Value.int .i64 m.rd) from (hm3.from_ (ai.rfl_.next hM8)).rd 7 rfl))) ai.rfl_ (fun _=>rfl)
  constructor
  ·rintro S L' w9 hU hmo hme hI hM hC hS ⟨d2,d4,d6,-⟩;have hS0:S 7=false:=hS;have hM9:=hM.1 hS0;obtain ⟨v9_17,e17,h17⟩:=hI.get (i:=2) (gM 2 rfl) d2;obtain rfl:=h17;obtain ⟨v9_19,e19,h19⟩:=hI.get (i:=4) (gM 4 rfl) d4;obtain rfl:=h19 hS0;obtain ⟨v9_21,e21,h21⟩:=hI.get (i:=6) (gM 6 rfl) d6;obtain rfl:=h21 hS0;refine df (al:=[.tmp 17,.tmp 19,.tmp 21]) [(17,_),(19,_),(21,_)] hU hI (gM 7 rfl) (by kernel_rfl) ⟨e17,e19,e21,trivial⟩ iF ((oV wm Z7 T g s [] _ (h3.from_ (ai.rfl_.next hM9)) hF m.f m.rd).mono ?_);rintro v9 w2 ⟨rfl,hS2⟩;exact ⟨⟨fun h0=>(by rw [dS] at h0;cases h0),fun _=>hS2⟩,rfl,⟨fun _ _ _ h=>h,fun _ _ _ h=>h,fun _ _ _ h=>h,fun _ _ _ h=>h,fun _ _ _ _ h0=>(by rw [dS] at h0;cases h0),fun _ _ _ h=>h,fun _ _ _ _ h0=>(by rw [dS] at h0;cases h0),fun _ _ _ h=>h,trivial⟩⟩
  exact trivial
 case hend=>
  intro w10 hM;obtain hS9:=hM.2 rfl;rintro v10_15 rfl v10_16 rfl v10_17 rfl v10_18 rfl v10_19-v10_20 rfl v10_21-v10_22 rfl;refine dY (ah (ao (ao (ag (ab (aa bJ rfl) (ab (au ak rfl (by exact (show _=some (Value.int .i64 m.k) from ((hS9.kept hzb hm9).from_ ai.rfl_).rd 0 rfl))) ?_))))));refine ab (dX (bo rfl rfl) (beq_iff_eq.2 hk6)) (aq (ah (aW rfl (ao (ag (mvp rfl (ab (aR (cs:=bT m) bp bg rfl (((hS9.kept hzb hm9).from_ ai.rfl_).whole)) (aE ql (pd wm Z7 T g (jd s m.f m.rd) m _ (hS9.from_ ai.rfl_) (hF.ack hf) hro hf hma0) ?_))))))));rintro v28 w11 ⟨rfl,h6⟩;refine aq (ah (aG (aH (dU rfl ?_))));rw [xA hro hk6];exact ⟨rfl,h.back hE3 (h6.from_ ai.rfl_) hzi⟩
theorem xw (w0:World) (Z:Nat→Prop) (T g:Nat) (s:Rf) (m:Msg) (w:World) (h:aF w0 Z w T g ⟨s,[]⟩) (hF:RfF s) (hf:1≤m.f∧m.f≤s.nodes) (hro:s.role=2) (hk4:m.k=4) (hix:0≤m.ix∧m.ix≤1099511627775) (hok:m.ok=false) :
 Rt prog 104 [.pointer (some ⟨g,0,none⟩),.agg (bT m).toArray] w (fun v w'=>v=.tuple #[]∧aF w0 Z w' T g (fV s m)):=by
 obtain ⟨k,hk⟩:∃ k:Nat,m.f=(k:Int)+1:=⟨(m.f-1).toNat,by omega⟩;refine enter (n:=129) Tryz.func104 rfl rfl rfl (ao (ag (cj (v:=.agg _) rfl ?_)));intro b3 w1 E3 hb3 hk3;obtain ⟨wm,hwm⟩:∃ x,x=w1:=⟨_,rfl⟩
 have h3a:=h.at_ (Z':=fun k=>Z k∨k=b3) E3 (fun k hk=>by
  rcases hk with e | e
  ·exact ⟨Nat.lt_of_lt_of_le (h.zw k e) E3.size,.inl e⟩
  ·subst e;exact ⟨hk3.lt,.inr (by omega)⟩)
 obtain ⟨Z7,hZ7⟩:∃ Z7,Z7=fun k=>Z k∨k=b3:=⟨_,rfl⟩
 have h3:aF wm Z7 w1 T g ⟨s,[]⟩:=by
  rw [hZ7,hwm];exact h3a
 have hzi:∀ k,Z k→Z7 k:=fun k hk=>by rw [hZ7];exact .inl hk
 have hzb:Z7 b3:=by rw [hZ7];exact .inr rfl
 have hE3:ai w wm:=by rw [hwm];exact E3
 have hm9:Blk wm b3 39 (bT m).toArray:=by rw [hwm];exact hk3
 have hm3:=h3.kept hzb hm9;refine aq (ah (ao (ao (ag (mvp rfl (ab (av rfl) (ab (aa ay rfl) (ab (aa aw rfl) (ab (aa c6 rfl) (ab (au ak rfl (by exact (show _=some (Value.int .i64 s.role) from (h3.from_ ai.rfl_).rd (fun _=>rfl)))) ?_))))))))));refine ab (bL (cz rfl rfl) (by rw [hro];rfl)) ?_;refine aq (ah (aU rfl (aI (ah (ao ?_)))));apply eE [(0,15,fun _ v _=>v=_),(1,16,fun _ v _=>v=_),(2,17,fun _ v _=>v=_),(3,18,fun _ v _=>v=_),(4,19,fun S v w9=>S 7=false→(eqp (.int .i64 m.f)) v w9),(5,20,fun _ v _=>v=_),(6,21,fun S v w9=>S 7=false→(eqp (.int .i64 m.rd)) v w9),(7,22,fun _ v _=>v=_)] [7] (fun S w'=>(S 7=false→ai w1 w')∧(S 7=true→aF wm Z7 w' T g ⟨jd s m.f m.rd,[]⟩)) (by kernel_rfl) (by kernel_rfl) rfl rfl ⟨fun _ _ _ _ _ _ _ h=>h,fun _ _ _ _ _ _ _ h=>h,fun _ _ _ _ _ _ _ h=>h,fun _ _ _ _ _ _ _ h=>h,fun S i v w1 w2 hq hF h h0=>(ae _) v w1 w2 hF (h (en h0)),fun _ _ _ _ _ _ _ h=>h,fun S i v w1 w2 hq hF h h0=>(ae _) v w1 w2 hF (h (en h0)),fun _ _ _ _ _ _ _ h=>h,trivial⟩ (fun S i w1 w2 hq hF h=>⟨fun h0=>(h.1 (en h0)).next hF,fun h1=>(fun h=>h.from_ hF) (h.2 (jn (show 7≠i by rintro rfl;exact absurd hq (by decide)) h1))⟩) ⟨fun _=>ai.rfl_.d1,fun h=>by cases h⟩
 case hstep=>
  constructor
  ·rintro S L' w2 hU hmo hme hI hM hC hS ⟨-⟩;have hS0:S 7=false:=(af hC (j:=7) rfl (by kernel_rfl) (af hC (j:=2) rfl (by kernel_rfl) (af hC (j:=1) rfl (by kernel_rfl) hS)));have hM2:=hM.1 hS0;have e0:=hI.1 0 (dy rfl);exact az [(0,_)] hU hmo hme hI hM (.head _) rfl rfl (by kernel_rfl) ⟨e0,trivial⟩ (aC (v:=.pointer _) rfl) ai.rfl_ (rfl)
  constructor
  ·rintro S L' w3 hU hmo hme hI hM hC hS ⟨d0,-⟩;have hS0:S 7=false:=(af hC (j:=7) rfl (by kernel_rfl) (af hC (j:=2) rfl (by kernel_rfl) hS));have hM3:=hM.1 hS0;obtain ⟨v3_15,e15,h15⟩:=hI.get (i:=0) (.head _) d0;obtain rfl:=h15;exact az [(15,_)] hU hmo hme hI hM (.tail _ (.head _)) rfl rfl (by kernel_rfl) ⟨e15,trivial⟩ (av rfl) ai.rfl_ (rfl)
  constructor
  ·rintro S L' w4 hU hmo hme hI hM hC hS ⟨d1,-⟩;have hS0:S 7=false:=(af hC (j:=7) rfl (by kernel_rfl) hS);have hM4:=hM.1 hS0;obtain ⟨v4_16,e16,h16⟩:=hI.get (i:=1) (.tail _ (.head _)) d1;obtain rfl:=h16;exact az [(16,_)] hU hmo hme hI hM (gM 2 rfl) rfl rfl (by kernel_rfl) ⟨e16,trivial⟩ (aa ay rfl) ai.rfl_ (rfl)
  constructor
  ·rintro S L' w5 hU hmo hme hI hM hC hS ⟨-⟩;have hS0:S 7=false:=(af hC (j:=7) rfl (by kernel_rfl) (af hC (j:=4) rfl (by kernel_rfl) hS));have hM5:=hM.1 hS0;have e3:=hI.1 3 (dy rfl);exact az [(3,_)] hU hmo hme hI hM (gM 3 rfl) rfl rfl (by kernel_rfl) ⟨e3,trivial⟩ (aa bx rfl) ai.rfl_ (rfl)
  constructor
  ·rintro S L' w6 hU hmo hme hI hM hC hS ⟨d3,-⟩;have hS0:S 7=false:=(af hC (j:=7) rfl (by kernel_rfl) hS);have hM6:=hM.1 hS0;obtain ⟨v6_18,e18,h18⟩:=hI.get (i:=3) (gM 3 rfl) d3;obtain rfl:=h18;exact az [(18,_)] hU hmo hme hI hM (gM 4 rfl) rfl rfl (by kernel_rfl) ⟨e18,trivial⟩ (au ak rfl (by exact (show _=some (Value.int .i64 m.f) from (hm3.from_ (ai.rfl_.next hM6)).rd 1 rfl))) ai.rfl_ (fun _=>rfl)
  constructor
  ·rintro S L' w7 hU hmo hme hI hM hC hS ⟨-⟩;have hS0:S 7=false:=(af hC (j:=7) rfl (by kernel_rfl) (af hC (j:=6) rfl (by kernel_rfl) hS));have hM7:=hM.1 hS0;have e3:=hI.1 3 (dy rfl);exact az [(3,_)] hU hmo hme hI hM (gM 5 rfl) rfl rfl (by kernel_rfl) ⟨e3,trivial⟩ (aa dg rfl) ai.rfl_ (rfl)
  constructor
  ·rintro S L' w8 hU hmo hme hI hM hC hS ⟨d5,-⟩;have hS0:S 7=false:=(af hC (j:=7) rfl (by kernel_rfl) hS);have hM8:=hM.1 hS0;obtain ⟨v8_20,e20,h20⟩:=hI.get (i:=5) (gM 5 rfl) d5;obtain rfl:=h20;exact az [(20,_)] hU hmo hme hI hM (gM 6 rfl) rfl rfl (by kernel_rfl) ⟨e20,trivial⟩ (au ak rfl (by exact (show _=some (Value.int .i64 m.rd) from (hm3.from_ (ai.rfl_.next hM8)).rd 7 rfl))) ai.rfl_ (fun _=>rfl)
  constructor
  ·rintro S L' w9 hU hmo hme hI hM hC hS ⟨d2,d4,d6,-⟩;have hS0:S 7=false:=hS;have hM9:=hM.1 hS0;obtain ⟨v9_17,e17,h17⟩:=hI.get (i:=2) (gM 2 rfl) d2;obtain rfl:=h17;obtain ⟨v9_19,e19,h19⟩:=hI.get (i:=4) (gM 4 rfl) d4;obtain rfl:=h19 hS0;obtain ⟨v9_21,e21,h21⟩:=hI.get (i:=6) (gM 6 rfl) d6;obtain rfl:=h21 hS0;refine df (al:=[.tmp 17,.tmp 19,.tmp 21]) [(17,_),(19,_),(21,_)] hU hI (gM 7 rfl) (by kernel_rfl) ⟨e17,e19,e21,trivial⟩ iF ((oV wm Z7 T g s [] _ (h3.from_ (ai.rfl_.next hM9)) hF m.f m.rd).mono ?_);rintro v9 w2 ⟨rfl,hS2⟩;exact ⟨⟨fun h0=>(by rw [dS] at h0;cases h0),fun _=>hS2⟩,rfl,⟨fun _ _ _ h=>h,fun _ _ _ h=>h,fun _ _ _ h=>h,fun _ _ _ h=>h,fun _ _ _ _ h0=>(by rw [dS] at h0;cases h0),fun _ _ _ h=>h,fun _ _ _ _ h0=>(by rw [dS] at h0;cases h0),fun _ _ _ h=>h,trivial⟩⟩
  exact trivial
 case hend=>
  intro w10 hM;obtain hS9:=hM.2 rfl;rintro v10_15 rfl v10_16 rfl v10_17 rfl v10_18 rfl v10_19-v10_20 rfl v10_21-v10_22 rfl;refine dY (ah (ao (ao (ag (ab (aa bJ rfl) ?_)))));obtain ⟨s1,hs1e⟩:∃ x,x=jd s m.f m.rd:=⟨_,rfl⟩;have hF1:RfF s1:=by rw [hs1e];exact hF.ack hf
  have hr1:s1.role=2:=by rw [hs1e];exact hro
  have hn1:s1.nodes=s.nodes:=by rw [hs1e];rfl
  have hl1:aQ s1=aQ s:=by rw [hs1e];rfl
  rw [←hs1e] at hS9;obtain ⟨tag5,⟨E,Ec,V,Vc,X,Xc,M,Mc,Sn,Sc,Q,Qc,LL⟩,O,oc,L,hs5⟩:=hS9.ex;have hll5:=hs5.m.l;have hXl:s1.next.length=s1.nodes.toNat:=by rw [hF1.nx.1,dP hr1]
  have hMl:s1.mtch.length=s1.nodes.toNat:=by rw [hF1.ma.1,dP hr1]
  have hSl:s1.sent.length=s1.nodes.toNat:=by rw [hF1.se.1,dP hr1]
  have hkX:k<s1.next.length:=by omega
  have hkM:k<s1.mtch.length:=by omega
  have hkS:k<s1.sent.length:=by omega
  have hnx:=hF1.nx.2 _ (List.getElem_mem hkX);have hma:=hF1.ma.2 _ (List.getElem_mem hkM);have hnn:=hF1.n;have hbl:=hF1.last;obtain ⟨gX,rfl⟩:∃ q,X=some ⟨q,0,none⟩:=du (n:=s1.next.length) (hs5.f.x (by decide)).1 (by omega);obtain ⟨gM,rfl⟩:∃ q,M=some ⟨q,0,none⟩:=du (n:=s1.mtch.length) (hs5.f.m (by decide)).1 (by omega);obtain ⟨gSn,rfl⟩:∃ q,Sn=some ⟨q,0,none⟩:=du (n:=s1.sent.length) (hs5.f.n (by decide)).1 (by omega);have hXr:World.ownsRow _ 0 3 1 (.slice (some ⟨gX,0,none⟩) s1.next.length Xc) s1.next.length (s1.next.map iV):=(hs5.f.x (by decide)).1;have hMr:World.ownsRow _ 0 3 1 (.slice (some ⟨gM,0,none⟩) s1.mtch.length Mc) s1.mtch.length (s1.mtch.map iV):=(hs5.f.m (by decide)).1;have hXc:=iY hXr hkX rfl;have hMc:=iY hMr hkM rfl;have hatX:=mY (l:=s1.next) hk hkX;have hatM:=mY (l:=s1.mtch) hk hkM;have he5:cQ _ (.slice E s1.es.length Ec) s1.es:=(aY.rd hs5.f).e;have hb5:=hs5.b;refine ab (au ak rfl (by exact (show _=some (Value.int .i64 m.k) from ((hS9.kept hzb hm9).from_ ai.rfl_).rd 0 rfl))) ?_;refine ab (bL (bo rfl rfl) (beq_eq_false_iff_ne.2 (by omega))) (aq (ah (aU rfl (aI (ah (ao (ag (mvp rfl (ab (av rfl) (ab (aa ay rfl) (aE ey (gv T g s1 _ _ _ (hb5.from_ ai.rfl_) (he5.from_ ai.rfl_) hF1.lg) ?_)))))))))));rintro v33 w11 ⟨rfl,E33⟩;refine mvt rfl (ab (aK rfl rfl) (ab (aK rfl rfl) (asi rfl (asi rfl (aq (ah (ao ?_)))))));apply br 22 [(36,eqp _),(37,eqp _),(38,eqp _),(39,eqp _),(40,eqp _),(41,eqp (.slice (some ⟨gX,0,none⟩) s1.next.length Xc)),(42,eqp _),(43,eqp (.int .i64 m.f)),(44,eqp (.int .i64 (k:Nat))),(45,eqp _),(46,eqp _),(47,eqp _),(48,eqp _),(49,eqp _),(50,eqp _),(51,eqp (.slice (some ⟨gM,0,none⟩) s1.mtch.length Mc)),(52,eqp _),(53,eqp (.int .i64 m.f)),(54,eqp (.int .i64 (k:Nat))),(55,eqp _),(6,eqp _),(7,eqp _)] (by repeat first | exact bN | refine bM ?_ | refine bB ?_) (by kernel_rfl) (by kernel_rfl) ⟨ae _,ae _,ae _,ae _,ae _,ae _,ae _,ae _,ae _,ae _,ae _,ae _,ae _,ae _,ae _,ae _,ae _,ae _,ae _,ae _,ae _,ae _,trivial⟩
  case hop=>
   constructor
   ·rintro-w13 D13;exact an (aC (v:=.pointer _) rfl) rfl
   constructor
   ·rintro-w14 D14;rintro _ rfl;exact an (av rfl) rfl
   constructor
   ·rintro-w15 D15;rintro _ rfl;exact an (aa ay rfl) rfl
   constructor
   ·rintro-w16 D16;rintro _ rfl;exact an (aa aw rfl) rfl
   constructor
   ·rintro-w17 D17;rintro _ rfl;exact an (aa ch rfl) rfl
   constructor
   ·rintro-w18 D18;rintro _ rfl;exact an (au bj rfl (by exact (show _=some (Value.slice (some ⟨gX,0,none⟩) s1.next.length Xc) from cB (hs5.b.from_ ((ai.rfl_.next E33).next D18)) 15 rfl))) rfl
   constructor
   ·rintro-w19 D19;exact an (aa bx rfl) rfl
   constructor
   ·rintro-w20 D20;rintro _ rfl;exact an (au ak rfl (by exact (show _=some (Value.int .i64 m.f) from ((hS9.kept hzb hm9).from_ ((ai.rfl_.next E33).next D20)).rd 1 rfl))) rfl
   constructor
   ·rintro-w21 D21;rintro v21_43 rfl;exact an (fg (dk rfl rfl (by omega)) (aZ (by omega))) rfl
   constructor
   ·rintro-w22 D22;rintro v22_41 rfl v22_44 rfl;exact an (bS a_ rfl rfl (by omega)) rfl
   constructor
   ·rintro-w23 D23;exact an (aC (v:=.pointer _) rfl) rfl
   constructor
   ·rintro-w24 D24;rintro _ rfl;exact an (av rfl) rfl
   constructor
   ·rintro-w25 D25;rintro _ rfl;exact an (aa ay rfl) rfl
   constructor
   ·rintro-w26 D26;rintro _ rfl;exact an (aa aw rfl) rfl
   constructor
   ·rintro-w27 D27;rintro _ rfl;exact an (aa cM rfl) rfl
   constructor
   ·rintro-w28 D28;rintro _ rfl;exact an (au bj rfl (by exact (show _=some (Value.slice (some ⟨gM,0,none⟩) s1.mtch.length Mc) from cB (hs5.b.from_ ((ai.rfl_.next E33).next D28)) 16 rfl))) rfl
   constructor
   ·rintro-w29 D29;exact an (aa bx rfl) rfl
   constructor
   ·rintro-w30 D30;rintro _ rfl;exact an (au ak rfl (by exact (show _=some (Value.int .i64 m.f) from ((hS9.kept hzb hm9).from_ ((ai.rfl_.next E33).next D30)).rd 1 rfl))) rfl
   constructor
   ·rintro-w31 D31;rintro v31_53 rfl;exact an (fg (dk rfl rfl (by omega)) (aZ (by omega))) rfl
   constructor
   ·rintro-w32 D32;rintro v32_51 rfl v32_54 rfl;exact an (bS a_ rfl rfl (by omega)) rfl
   constructor
   ·rintro-w33 D33;rintro _ rfl;exact an (cS (v:=.pointer _) rfl) rfl
   constructor
   ·rintro-w34 D34;rintro _ rfl;exact an (cS (v:=.pointer _) rfl) rfl
   exact trivial
  case hend=>
   intro w35 D35;rintro _ rfl _ rfl _ rfl _ rfl _ rfl v41 rfl _ rfl v43 rfl v44 rfl _ rfl _ rfl _ rfl _ rfl _ rfl _ rfl v51 rfl _ rfl v53 rfl v54 rfl _ rfl _ rfl _ rfl;show St ..;refine aq (ah (ao (ao (ag (ab (aa gz rfl) ?_)))));refine ab (au im rfl (show _=some (Value.bool false) from by rw [←hok];exact ((hS9.kept hzb hm9).from_ ((ai.rfl_.next E33).next D35)).rd 8 rfl)) ?_;refine ab (dX (cE rfl) rfl) (aq (ah (aW rfl (ao ?_))));apply br 15 [(59,eqp _),(60,eqp _),(61,eqp _),(62,eqp (.int .i64 s1.next[k])),(63,eqp _),(64,eqp _),(65,eqp (.int .i64 m.ix)),(66,eqp _),(67,eqp _),(68,eqp _),(69,eqp _),(70,eqp (.int .i64 s1.mtch[k])),(71,eqp _),(72,eqp _),(73,eqp _)] (by repeat first | exact bN | refine bM ?_ | refine bB ?_) (by kernel_rfl) (by kernel_rfl) ⟨ae _,ae _,ae _,ae _,ae _,ae _,ae _,ae _,ae _,ae _,ae _,ae _,ae _,ae _,ae _,trivial⟩
   case hop=>
    constructor
    ·rintro-w37 D37;exact an (aC (v:=.pointer _) rfl) rfl
    constructor
    ·rintro-w38 D38;exact an (aC (v:=.pointer _) rfl) rfl
    constructor
    ·rintro-w39 D39;rintro _ rfl;exact an (av rfl) rfl
    constructor
    ·rintro-w40 D40;rintro _ rfl;exact an (au ak rfl (by exact eH (((ai.rfl_.next E33).next D35).next D40) hXc)) rfl
    constructor
    ·rintro-w41 D41;rintro v41_62 rfl;exact an (dk rfl rfl (by omega)) rfl
    constructor
    ·rintro-w42 D42;exact an (aa bW rfl) rfl
    constructor
    ·rintro-w43 D43;rintro _ rfl;exact an (au ak rfl (by exact (show _=some (Value.int .i64 m.ix) from ((hS9.kept hzb hm9).from_ (((ai.rfl_.next E33).next D35).next D43)).rd 4 rfl))) rfl
    constructor
    ·rintro-w44 D44;rintro v44_65 rfl;exact an (cl rfl rfl (by omega)) rfl
    constructor
    ·rintro-w45 D45;rintro _ rfl _ rfl;exact an (kT rfl rfl) rfl
    constructor
    ·rintro-w46 D46;exact an (aC (v:=.pointer _) rfl) rfl
    constructor
    ·rintro-w47 D47;rintro _ rfl;exact an (av rfl) rfl
    constructor
    ·rintro-w48 D48;rintro _ rfl;exact an (au ak rfl (by exact eH (((ai.rfl_.next E33).next D35).next D48) hMc)) rfl
    constructor
    ·rintro-w49 D49;rintro v49_70 rfl;exact an (cl rfl rfl (by omega)) rfl
    constructor
    ·rintro-w50 D50;rintro _ rfl _ rfl;exact an (uh rfl rfl) rfl
    constructor
    ·rintro-w51 D51;rintro _ rfl;exact an (av rfl) rfl
    exact trivial
   case hend=>
    intro w52 D52;rintro _ rfl _ rfl _ rfl v62 rfl _ rfl _ rfl v65 rfl _ rfl _ rfl _ rfl _ rfl v70 rfl _ rfl _ rfl _ rfl;show St ..;have hMq8:ai _ w52:=(((ai.rfl_.next E33).next D35).next D52);refine fG (xs:=s1.next.map iV) bh rfl rfl rfl (show World.ownsRow _ 0 3 1 (.slice (some ⟨gX,0,none⟩) s1.next.length _) s1.next.length _ from (hs5.f.x (by decide)).1.kept_from hMq8) (by show k<s1.next.length;omega) ?_;intro w53 Oq8 Pq8;obtain ⟨hs6,h6⟩:=aF.rowX hS9 hs5 hk rfl hMq8 Oq8 (v:=max (min (s1.next[k]-1) (m.ix+1)) (s1.mtch[k]+1)) Pq8;refine aq (ah (ao ?_));apply br 10 [(74,eqp _),(75,eqp _),(76,eqp _),(77,eqp _),(78,eqp _),(79,eqp (.slice (some ⟨gSn,0,none⟩) s1.sent.length Sc)),(80,eqp _),(81,eqp (.int .i64 m.f)),(82,eqp (.int .i64 (k:Nat))),(83,eqp _)] (by repeat first | exact bN | refine bM ?_ | refine bB ?_) (by kernel_rfl) (by kernel_rfl) ⟨ae _,ae _,ae _,ae _,ae _,ae _,ae _,ae _,ae _,ae _,trivial⟩
    case hop=>
     constructor
     ·rintro-w55 D55;exact an (aC (v:=.pointer _) rfl) rfl
     constructor
     ·rintro-w56 D56;rintro _ rfl;exact an (av rfl) rfl
     constructor
     ·rintro-w57 D57;rintro _ rfl;exact an (aa ay rfl) rfl
     constructor
     ·rintro-w58 D58;rintro _ rfl;exact an (aa aw rfl) rfl
     constructor
     ·rintro-w59 D59;rintro _ rfl;exact an (aa dc rfl) rfl
     constructor
     ·rintro-w60 D60;rintro _ rfl;exact an (au bj rfl (by exact (show _=some (Value.slice (some ⟨gSn,0,none⟩) s1.sent.length Sc) from cB (hs6.b.from_ (ai.rfl_.next D60)) 17 rfl))) rfl
     constructor
     ·rintro-w61 D61;exact an (aa bx rfl) rfl
     constructor
     ·rintro-w62 D62;rintro _ rfl;exact an (au ak rfl (by exact (show _=some (Value.int .i64 m.f) from ((h6.kept hzb hm9).from_ (ai.rfl_.next D62)).rd 1 rfl))) rfl
     constructor
     ·rintro-w63 D63;rintro v63_81 rfl;exact an (fg (dk rfl rfl (by omega)) (aZ (by omega))) rfl
     constructor
     ·rintro-w64 D64;rintro v64_79 rfl v64_82 rfl;exact an (bS a_ rfl rfl (by omega)) rfl
     exact trivial
    case hend=>
     intro w65 D65;rintro _ rfl _ rfl _ rfl _ rfl _ rfl v79 rfl _ rfl v81 rfl v82 rfl _ rfl;show St ..;have hMq9:ai _ w65:=(ai.rfl_.next D65);refine fG (xs:=s1.sent.map iV) bh rfl rfl rfl (show World.ownsRow _ 0 3 1 (.slice (some ⟨gSn,0,none⟩) s1.sent.length _) s1.sent.length _ from (hs6.f.n (by decide)).1.kept_from hMq9) (by show k<s1.sent.length;omega) ?_;intro w66 Oq9 Pq9;obtain ⟨hs7,h7⟩:=aF.rowS h6 hs6 hk rfl hMq9 Oq9 (v:=0) Pq9;refine aq (ah (ao (ag (mvp rfl (ab (aa bx rfl) (ab (au ak rfl (by exact (show _=some (Value.int .i64 m.f) from ((h7.kept hzb hm9).from_ ai.rfl_).rd 1 rfl))) ?_))))));have hFN:RfF ({ s1 with next:=ck s1.next m.f (max (min (s1.next[k]-1) (m.ix+1)) (s1.mtch[k]+1)),sent:=ck s1.sent m.f 0 }:Rf):=(hF1.nextPut (k:=m.f) (v:=max (min (s1.next[k]-1) (m.ix+1)) (s1.mtch[k]+1)) (by show 1≤_∧_≤aQ s1+1;omega)).sentPut (k:=m.f) (v:=0) ⟨Int.le_refl _,Int.natCast_nonneg _⟩;refine aE je (l5 wm Z7 T g ⟨({ s1 with next:=ck s1.next m.f (max (min (s1.next[k]-1) (m.ix+1)) (s1.mtch[k]+1)),sent:=ck s1.sent m.f 0 }:Rf),[]⟩ _ (h7.from_ ai.rfl_) hFN hr1 (Nat.zero_le _) m.f (by show 1≤m.f∧m.f≤s1.nodes;omega)) ?_;rintro v87 w67 ⟨rfl,h8⟩;refine aq (ah (aG (aH (dU rfl ?_))));have hax:at1 s.next m.f=s1.next[k]:=by rw [←hatX,hs1e];rfl
     have ham:at1 s.mtch m.f=s1.mtch[k]:=by rw [←hatM,hs1e];rfl
     rw [xo hro hk4 hok,hax,ham,←hs1e];have e1:s.next=s1.next:=by rw [hs1e];rfl
     have e2:s.sent=s1.sent:=by rw [hs1e];rfl
     rw [e1,e2];exact ⟨rfl,h.back hE3 (h8.from_ ai.rfl_) hzi⟩
theorem xy (w0:World) (Z:Nat→Prop) (T g:Nat) (s:Rf) (m:Msg) (w:World) (h:aF w0 Z w T g ⟨s,[]⟩) (hF:RfF s) (hf:1≤m.f∧m.f≤s.nodes) (hro:s.role=2) (hk4:m.k=4) (_:0≤m.ix∧m.ix≤1099511627775) (hok:m.ok=true) (hi:aQ s<m.ix) :
 Rt prog 104 [.pointer (some ⟨g,0,none⟩),.agg (bT m).toArray] w (fun v w'=>v=.tuple #[]∧aF w0 Z w' T g (fV s m)):=by
 obtain ⟨k,hk⟩:∃ k:Nat,m.f=(k:Int)+1:=⟨(m.f-1).toNat,by omega⟩;refine enter (n:=129) Tryz.func104 rfl rfl rfl (ao (ag (cj (v:=.agg _) rfl ?_)));intro b3 w1 E3 hb3 hk3;obtain ⟨wm,hwm⟩:∃ x,x=w1:=⟨_,rfl⟩
 have h3a:=h.at_ (Z':=fun k=>Z k∨k=b3) E3 (fun k hk=>by
  rcases hk with e | e
  ·exact ⟨Nat.lt_of_lt_of_le (h.zw k e) E3.size,.inl e⟩
  ·subst e;exact ⟨hk3.lt,.inr (by omega)⟩)
 obtain ⟨Z7,hZ7⟩:∃ Z7,Z7=fun k=>Z k∨k=b3:=⟨_,rfl⟩
 have h3:aF wm Z7 w1 T g ⟨s,[]⟩:=by
  rw [hZ7,hwm];exact h3a
 have hzi:∀ k,Z k→Z7 k:=fun k hk=>by rw [hZ7];exact .inl hk
 have hzb:Z7 b3:=by rw [hZ7];exact .inr rfl
 have hE3:ai w wm:=by rw [hwm];exact E3
 have hm9:Blk wm b3 39 (bT m).toArray:=by rw [hwm];exact hk3
 have hm3:=h3.kept hzb hm9;refine aq (ah (ao (ao (ag (mvp rfl (ab (av rfl) (ab (aa ay rfl) (ab (aa aw rfl) (ab (aa c6 rfl) (ab (au ak rfl (by exact (show _=some (Value.int .i64 s.role) from (h3.from_ ai.rfl_).rd (fun _=>rfl)))) ?_))))))))));refine ab (bL (cz rfl rfl) (by rw [hro];rfl)) ?_;refine aq (ah (aU rfl (aI (ah (ao ?_)))));apply eE [(0,15,fun _ v _=>v=_),(1,16,fun _ v _=>v=_),(2,17,fun _ v _=>v=_),(3,18,fun _ v _=>v=_),(4,19,fun S v w9=>S 7=false→(eqp (.int .i64 m.f)) v w9),(5,20,fun _ v _=>v=_),(6,21,fun S v w9=>S 7=false→(eqp (.int .i64 m.rd)) v w9),(7,22,fun _ v _=>v=_)] [7] (fun S w'=>(S 7=false→ai w1 w')∧(S 7=true→aF wm Z7 w' T g ⟨jd s m.f m.rd,[]⟩)) (by kernel_rfl) (by kernel_rfl) rfl rfl ⟨fun _ _ _ _ _ _ _ h=>h,fun _ _ _ _ _ _ _ h=>h,fun _ _ _ _ _ _ _ h=>h,fun _ _ _ _ _ _ _ h=>h,fun S i v w1 w2 hq hF h h0=>(ae _) v w1 w2 hF (h (en h0)),fun _ _ _ _ _ _ _ h=>h,fun S i v w1 w2 hq hF h h0=>(ae _) v w1 w2 hF (h (en h0)),fun _ _ _ _ _ _ _ h=>h,trivial⟩ (fun S i w1 w2 hq hF h=>⟨fun h0=>(h.1 (en h0)).next hF,fun h1=>(fun h=>h.from_ hF) (h.2 (jn (show 7≠i by rintro rfl;exact absurd hq (by decide)) h1))⟩) ⟨fun _=>ai.rfl_.d1,fun h=>by cases h⟩
 case hstep=>
  constructor
  ·rintro S L' w2 hU hmo hme hI hM hC hS ⟨-⟩;have hS0:S 7=false:=(af hC (j:=7) rfl (by kernel_rfl) (af hC (j:=2) rfl (by kernel_rfl) (af hC (j:=1) rfl (by kernel_rfl) hS)));have hM2:=hM.1 hS0;have e0:=hI.1 0 (dy rfl);exact az [(0,_)] hU hmo hme hI hM (.head _) rfl rfl (by kernel_rfl) ⟨e0,trivial⟩ (aC (v:=.pointer _) rfl) ai.rfl_ (rfl)
  constructor
  ·rintro S L' w3 hU hmo hme hI hM hC hS ⟨d0,-⟩;have hS0:S 7=false:=(af hC (j:=7) rfl (by kernel_rfl) (af hC (j:=2) rfl (by kernel_rfl) hS));have hM3:=hM.1 hS0;obtain ⟨v3_15,e15,h15⟩:=hI.get (i:=0) (.head _) d0;obtain rfl:=h15;exact az [(15,_)] hU hmo hme hI hM (.tail _ (.head _)) rfl rfl (by kernel_rfl) ⟨e15,trivial⟩ (av rfl) ai.rfl_ (rfl)
  constructor
  ·rintro S L' w4 hU hmo hme hI hM hC hS ⟨d1,-⟩;have hS0:S 7=false:=(af hC (j:=7) rfl (by kernel_rfl) hS);have hM4:=hM.1 hS0;obtain ⟨v4_16,e16,h16⟩:=hI.get (i:=1) (.tail _ (.head _)) d1;obtain rfl:=h16;exact az [(16,_)] hU hmo hme hI hM (gM 2 rfl) rfl rfl (by kernel_rfl) ⟨e16,trivial⟩ (aa ay rfl) ai.rfl_ (rfl)
  constructor
  ·rintro S L' w5 hU hmo hme hI hM hC hS ⟨-⟩;have hS0:S 7=false:=(af hC (j:=7) rfl (by kernel_rfl) (af hC (j:=4) rfl (by kernel_rfl) hS));have hM5:=hM.1 hS0;have e3:=hI.1 3 (dy rfl);exact az [(3,_)] hU hmo hme hI hM (gM 3 rfl) rfl rfl (by kernel_rfl) ⟨e3,trivial⟩ (aa bx rfl) ai.rfl_ (rfl)
  constructor
  ·rintro S L' w6 hU hmo hme hI hM hC hS ⟨d3,-⟩;have hS0:S 7=false:=(af hC (j:=7) rfl (by kernel_rfl) hS);have hM6:=hM.1 hS0;obtain ⟨v6_18,e18,h18⟩:=hI.get (i:=3) (gM 3 rfl) d3;obtain rfl:=h18;exact az [(18,_)] hU hmo hme hI hM (gM 4 rfl) rfl rfl (by kernel_rfl) ⟨e18,trivial⟩ (au ak rfl (by exact (show _=some (Value.int .i64 m.f) from (hm3.from_ (ai.rfl_.next hM6)).rd 1 rfl))) ai.rfl_ (fun _=>rfl)
  constructor
  ·rintro S L' w7 hU hmo hme hI hM hC hS ⟨-⟩;have hS0:S 7=false:=(af hC (j:=7) rfl (by kernel_rfl) (af hC (j:=6) rfl (by kernel_rfl) hS));have hM7:=hM.1 hS0;have e3:=hI.1 3 (dy rfl);exact az [(3,_)] hU hmo hme hI hM (gM 5 rfl) rfl rfl (by kernel_rfl) ⟨e3,trivial⟩ (aa dg rfl) ai.rfl_ (rfl)
  constructor
  ·rintro S L' w8 hU hmo hme hI hM hC hS ⟨d5,-⟩;have hS0:S 7=false:=(af hC (j:=7) rfl (by kernel_rfl) hS);have hM8:=hM.1 hS0;obtain ⟨v8_20,e20,h20⟩:=hI.get (i:=5) (gM 5 rfl) d5;obtain rfl:=h20;exact az [(20,_)] hU hmo hme hI hM (gM 6 rfl) rfl rfl (by kernel_rfl) ⟨e20,trivial⟩ (au ak rfl (by exact (show _=some (Value.int .i64 m.rd) from (hm3.from_ (ai.rfl_.next hM8)).rd 7 rfl))) ai.rfl_ (fun _=>rfl)
  constructor
  ·rintro S L' w9 hU hmo hme hI hM hC hS ⟨d2,d4,d6,-⟩;have hS0:S 7=false:=hS;have hM9:=hM.1 hS0;obtain ⟨v9_17,e17,h17⟩:=hI.get (i:=2) (gM 2 rfl) d2;obtain rfl:=h17;obtain ⟨v9_19,e19,h19⟩:=hI.get (i:=4) (gM 4 rfl) d4;obtain rfl:=h19 hS0;obtain ⟨v9_21,e21,h21⟩:=hI.get (i:=6) (gM 6 rfl) d6;obtain rfl:=h21 hS0;refine df (al:=[.tmp 17,.tmp 19,.tmp 21]) [(17,_),(19,_),(21,_)] hU hI (gM 7 rfl) (by kernel_rfl) ⟨e17,e19,e21,trivial⟩ iF ((oV wm Z7 T g s [] _ (h3.from_ (ai.rfl_.next hM9)) hF m.f m.rd).mono ?_);rintro v9 w2 ⟨rfl,hS2⟩;exact ⟨⟨fun h0=>(by rw [dS] at h0;cases h0),fun _=>hS2⟩,rfl,⟨fun _ _ _ h=>h,fun _ _ _ h=>h,fun _ _ _ h=>h,fun _ _ _ h=>h,fun _ _ _ _ h0=>(by rw [dS] at h0;cases h0),fun _ _ _ h=>h,fun _ _ _ _ h0=>(by rw [dS] at h0;cases h0),fun _ _ _ h=>h,trivial⟩⟩
  exact trivial
 case hend=>
  intro w10 hM;obtain hS9:=hM.2 rfl;rintro v10_15 rfl v10_16 rfl v10_17 rfl v10_18 rfl v10_19-v10_20 rfl v10_21-v10_22 rfl;refine dY (ah (ao (ao (ag (ab (aa bJ rfl) ?_)))));obtain ⟨s1,hs1e⟩:∃ x,x=jd s m.f m.rd:=⟨_,rfl⟩;have hF1:RfF s1:=by rw [hs1e];exact hF.ack hf
  have hr1:s1.role=2:=by rw [hs1e];exact hro
  have hn1:s1.nodes=s.nodes:=by rw [hs1e];rfl
  have hl1:aQ s1=aQ s:=by rw [hs1e];rfl
  rw [←hs1e] at hS9;obtain ⟨tag5,⟨E,Ec,V,Vc,X,Xc,M,Mc,Sn,Sc,Q,Qc,LL⟩,O,oc,L,hs5⟩:=hS9.ex;have hll5:=hs5.m.l;have hXl:s1.next.length=s1.nodes.toNat:=by rw [hF1.nx.1,dP hr1]
  have hMl:s1.mtch.length=s1.nodes.toNat:=by rw [hF1.ma.1,dP hr1]
  have hSl:s1.sent.length=s1.nodes.toNat:=by rw [hF1.se.1,dP hr1]
  have hkX:k<s1.next.length:=by omega
  have hkM:k<s1.mtch.length:=by omega
  have hkS:k<s1.sent.length:=by omega
  have hnx:=hF1.nx.2 _ (List.getElem_mem hkX);have hma:=hF1.ma.2 _ (List.getElem_mem hkM);have hnn:=hF1.n;have hbl:=hF1.last;obtain ⟨gX,rfl⟩:∃ q,X=some ⟨q,0,none⟩:=du (n:=s1.next.length) (hs5.f.x (by decide)).1 (by omega);obtain ⟨gM,rfl⟩:∃ q,M=some ⟨q,0,none⟩:=du (n:=s1.mtch.length) (hs5.f.m (by decide)).1 (by omega);obtain ⟨gSn,rfl⟩:∃ q,Sn=some ⟨q,0,none⟩:=du (n:=s1.sent.length) (hs5.f.n (by decide)).1 (by omega);have hXr:World.ownsRow _ 0 3 1 (.slice (some ⟨gX,0,none⟩) s1.next.length Xc) s1.next.length (s1.next.map iV):=(hs5.f.x (by decide)).1;have hMr:World.ownsRow _ 0 3 1 (.slice (some ⟨gM,0,none⟩) s1.mtch.length Mc) s1.mtch.length (s1.mtch.map iV):=(hs5.f.m (by decide)).1;have hXc:=iY hXr hkX rfl;have hMc:=iY hMr hkM rfl;have hatX:=mY (l:=s1.next) hk hkX;have hatM:=mY (l:=s1.mtch) hk hkM;have he5:cQ _ (.slice E s1.es.length Ec) s1.es:=(aY.rd hs5.f).e;have hb5:=hs5.b;refine ab (au ak rfl (by exact (show _=some (Value.int .i64 m.k) from ((hS9.kept hzb hm9).from_ ai.rfl_).rd 0 rfl))) ?_;refine ab (bL (bo rfl rfl) (beq_eq_false_iff_ne.2 (by omega))) (aq (ah (aU rfl (aI (ah (ao (ag (mvp rfl (ab (av rfl) (ab (aa ay rfl) (aE ey (gv T g s1 _ _ _ (hb5.from_ ai.rfl_) (he5.from_ ai.rfl_) hF1.lg) ?_)))))))))));rintro v33 w11 ⟨rfl,E33⟩;refine mvt rfl (ab (aK rfl rfl) (ab (aK rfl rfl) (asi rfl (asi rfl (aq (ah (ao ?_)))))));apply br 22 [(36,eqp _),(37,eqp _),(38,eqp _),(39,eqp _),(40,eqp _),(41,eqp (.slice (some ⟨gX,0,none⟩) s1.next.length Xc)),(42,eqp _),(43,eqp (.int .i64 m.f)),(44,eqp (.int .i64 (k:Nat))),(45,eqp _),(46,eqp _),(47,eqp _),(48,eqp _),(49,eqp _),(50,eqp _),(51,eqp (.slice (some ⟨gM,0,none⟩) s1.mtch.length Mc)),(52,eqp _),(53,eqp (.int .i64 m.f)),(54,eqp (.int .i64 (k:Nat))),(55,eqp _),(6,eqp _),(7,eqp _)] (by repeat first | exact bN | refine bM ?_ | refine bB ?_) (by kernel_rfl) (by kernel_rfl) ⟨ae _,ae _,ae _,ae _,ae _,ae _,ae _,ae _,ae _,ae _,ae _,ae _,ae _,ae _,ae _,ae _,ae _,ae _,ae _,ae _,ae _,ae _,trivial⟩
  case hop=>
   constructor
   ·rintro-w13 D13;exact an (aC (v:=.pointer _) rfl) rfl
   constructor
   ·rintro-w14 D14;rintro _ rfl;exact an (av rfl) rfl
   constructor
   ·rintro-w15 D15;rintro _ rfl;exact an (aa ay rfl) rfl
   constructor
   ·rintro-w16 D16;rintro _ rfl;exact an (aa aw rfl) rfl
   constructor
   ·rintro-w17 D17;rintro _ rfl;exact an (aa ch rfl) rfl
   constructor
   ·rintro-w18 D18;rintro _ rfl;exact an (au bj rfl (by exact (show _=some (Value.slice (some ⟨gX,0,none⟩) s1.next.length Xc) from cB (hs5.b.from_ ((ai.rfl_.next E33).next D18)) 15 rfl))) rfl
   constructor
   ·rintro-w19 D19;exact an (aa bx rfl) rfl
   constructor
   ·rintro-w20 D20;rintro _ rfl;exact an (au ak rfl (by exact (show _=some (Value.int .i64 m.f) from ((hS9.kept hzb hm9).from_ ((ai.rfl_.next E33).next D20)).rd 1 rfl))) rfl
   constructor
   ·rintro-w21 D21;rintro v21_43 rfl;exact an (fg (dk rfl rfl (by omega)) (aZ (by omega))) rfl
   constructor
   ·rintro-w22 D22;rintro v22_41 rfl v22_44 rfl;exact an (bS a_ rfl rfl (by omega)) rfl
   constructor
   ·rintro-w23 D23;exact an (aC (v:=.pointer _) rfl) rfl
   constructor
   ·rintro-w24 D24;rintro _ rfl;exact an (av rfl) rfl
   constructor
   ·rintro-w25 D25;rintro _ rfl;exact an (aa ay rfl) rfl
   constructor
   ·rintro-w26 D26;rintro _ rfl;exact an (aa aw rfl) rfl
   constructor
   ·rintro-w27 D27;rintro _ rfl;exact an (aa cM rfl) rfl
   constructor
   ·rintro-w28 D28;rintro _ rfl;exact an (au bj rfl (by exact (show _=some (Value.slice (some ⟨gM,0,none⟩) s1.mtch.length Mc) from cB (hs5.b.from_ ((ai.rfl_.next E33).next D28)) 16 rfl))) rfl
   constructor
   ·rintro-w29 D29;exact an (aa bx rfl) rfl
   constructor
   ·rintro-w30 D30;rintro _ rfl;exact an (au ak rfl (by exact (show _=some (Value.int .i64 m.f) from ((hS9.kept hzb hm9).from_ ((ai.rfl_.next E33).next D30)).rd 1 rfl))) rfl
   constructor
   ·rintro-w31 D31;rintro v31_53 rfl;exact an (fg (dk rfl rfl (by omega)) (aZ (by omega))) rfl
   constructor
   ·rintro-w32 D32;rintro v32_51 rfl v32_54 rfl;exact an (bS a_ rfl rfl (by omega)) rfl
   constructor
   ·rintro-w33 D33;rintro _ rfl;exact an (cS (v:=.pointer _) rfl) rfl
   constructor
   ·rintro-w34 D34;rintro _ rfl;exact an (cS (v:=.pointer _) rfl) rfl
   exact trivial
  case hend=>
   intro w35 D35;rintro _ rfl _ rfl _ rfl _ rfl _ rfl v41 rfl _ rfl v43 rfl v44 rfl _ rfl _ rfl _ rfl _ rfl _ rfl _ rfl v51 rfl _ rfl v53 rfl v54 rfl _ rfl _ rfl _ rfl;show St ..;refine aq (ah (ao (ao (ag (ab (aa gz rfl) ?_)))));refine ab (au im rfl (show _=some (Value.bool true) from by rw [←hok];exact ((hS9.kept hzb hm9).from_ ((ai.rfl_.next E33).next D35)).rd 8 rfl)) ?_;refine ab (bL (cE rfl) rfl) (aq (ah (aU rfl (aI (ah (ao (ao (ag (ab (aa bW rfl) (ab (au ak rfl (by exact (show _=some (Value.int .i64 m.ix) from ((hS9.kept hzb hm9).from_ ((ai.rfl_.next E33).next D35)).rd 4 rfl))) ?_))))))))));refine mvi rfl (ab (dX (ct rfl rfl) (decide_eq_true (by omega))) (aq (ah (aW rfl (aG (aH (dU rfl ?_)))))));rw [xp hro hk4 hok hi,←hs1e];exact ⟨rfl,h.back hE3 (hS9.from_ ((ai.rfl_.next E33).next D35)) hzi⟩
theorem xu (w0:World) (Z:Nat→Prop) (T g:Nat) (s:Rf) (m:Msg) (w:World) (h:aF w0 Z w T g ⟨s,[]⟩) (hF:RfF s) (hf:1≤m.f∧m.f≤s.nodes) (hro:s.role=2) (hk4:m.k=4) (hix:0≤m.ix∧m.ix≤1099511627775) (hok:m.ok=true) (hi:m.ix≤aQ s) :
 Rt prog 104 [.pointer (some ⟨g,0,none⟩),.agg (bT m).toArray] w (fun v w'=>v=.tuple #[]∧aF w0 Z w' T g (fV s m)):=by
 obtain ⟨k,hk⟩:∃ k:Nat,m.f=(k:Int)+1:=⟨(m.f-1).toNat,by omega⟩;refine enter (n:=129) Tryz.func104 rfl rfl rfl (ao (ag (cj (v:=.agg _) rfl ?_)));intro b3 w1 E3 hb3 hk3;obtain ⟨wm,hwm⟩:∃ x,x=w1:=⟨_,rfl⟩
 have h3a:=h.at_ (Z':=fun k=>Z k∨k=b3) E3 (fun k hk=>by
  rcases hk with e | e
  ·exact ⟨Nat.lt_of_lt_of_le (h.zw k e) E3.size,.inl e⟩
  ·subst e;exact ⟨hk3.lt,.inr (by omega)⟩)
 obtain ⟨Z7,hZ7⟩:∃ Z7,Z7=fun k=>Z k∨k=b3:=⟨_,rfl⟩
 have h3:aF wm Z7 w1 T g ⟨s,[]⟩:=by
  rw [hZ7,hwm];exact h3a
 have hzi:∀ k,Z k→Z7 k:=fun k hk=>by rw [hZ7];exact .inl hk
 have hzb:Z7 b3:=by rw [hZ7];exact .inr rfl
 have hE3:ai w wm:=by rw [hwm];exact E3
 have hm9:Blk wm b3 39 (bT m).toArray:=by rw [hwm];exact hk3
 have hm3:=h3.kept hzb hm9;refine aq (ah (ao (ao (ag (mvp rfl (ab (av rfl) (ab (aa ay rfl) (ab (aa aw rfl) (ab (aa c6 rfl) (ab (au ak rfl (by exact (show _=some (Value.int .i64 s.role) from (h3.from_ ai.rfl_).rd (fun _=>rfl)))) ?_))))))))));refine ab (bL (cz rfl rfl) (by rw [hro];rfl)) ?_;refine aq (ah (aU rfl (aI (ah (ao ?_)))));apply eE [(0,15,fun _ v _=>v=_),(1,16,fun _ v _=>v=_),(2,17,fun _ v _=>v=_),(3,18,fun _ v _=>v=_),(4,19,fun S v w9=>S 7=false→(eqp (.int .i64 m.f)) v w9),(5,20,fun _ v _=>v=_),(6,21,fun S v w9=>S 7=false→(eqp (.int .i64 m.rd)) v w9),(7,22,fun _ v _=>v=_)] [7] (fun S w'=>(S 7=false→ai w1 w')∧(S 7=true→aF wm Z7 w' T g ⟨jd s m.f m.rd,[]⟩)) (by kernel_rfl) (by kernel_rfl) rfl rfl ⟨fun _ _ _ _ _ _ _ h=>h,fun _ _ _ _ _ _ _ h=>h,fun _ _ _ _ _ _ _ h=>h,fun _ _ _ _ _ _ _ h=>h,fun S i v w1 w2 hq hF h h0=>(ae _) v w1 w2 hF (h (en h0)),fun _ _ _ _ _ _ _ h=>h,fun S i v w1 w2 hq hF h h0=>(ae _) v w1 w2 hF (h (en h0)),fun _ _ _ _ _ _ _ h=>h,trivial⟩ (fun S i w1 w2 hq hF h=>⟨fun h0=>(h.1 (en h0)).next hF,fun h1=>(fun h=>h.from_ hF) (h.2 (jn (show 7≠i by rintro rfl;exact absurd hq (by decide)) h1))⟩) ⟨fun _=>ai.rfl_.d1,fun h=>by cases h⟩
 case hstep=>
  constructor
  ·rintro S L' w2 hU hmo hme hI hM hC hS ⟨-⟩;have hS0:S 7=false:=(af hC (j:=7) rfl (by kernel_rfl) (af hC (j:=2) rfl (by kernel_rfl) (af hC (j:=1) rfl (by kernel_rfl) hS)));have hM2:=hM.1 hS0;have e0:=hI.1 0 (dy rfl);exact az [(0,_)] hU hmo hme hI hM (.head _) rfl rfl (by kernel_rfl) ⟨e0,trivial⟩ (aC (v:=.pointer _) rfl) ai.rfl_ (rfl)
  constructor
  ·rintro S L' w3 hU hmo hme hI hM hC hS ⟨d0,-⟩;have hS0:S 7=false:=(af hC (j:=7) rfl (by kernel_rfl) (af hC (j:=2) rfl (by kernel_rfl) hS));have hM3:=hM.1 hS0;obtain ⟨v3_15,e15,h15⟩:=hI.get (i:=0) (.head _) d0;obtain rfl:=h15;exact az [(15,_)] hU hmo hme hI hM (.tail _ (.head _)) rfl rfl (by kernel_rfl) ⟨e15,trivial⟩ (av rfl) ai.rfl_ (rfl)
  constructor
  ·rintro S L' w4 hU hmo hme hI hM hC hS ⟨d1,-⟩;have hS0:S 7=false:=(af hC (j:=7) rfl (by kernel_rfl) hS);have hM4:=hM.1 hS0;obtain ⟨v4_16,e16,h16⟩:=hI.get (i:=1) (.tail _ (.head _)) d1;obtain rfl:=h16;exact az [(16,_)] hU hmo hme hI hM (gM 2 rfl) rfl rfl (by kernel_rfl) ⟨e16,trivial⟩ (aa ay rfl) ai.rfl_ (rfl)
  constructor
  ·rintro S L' w5 hU hmo hme hI hM hC hS ⟨-⟩;have hS0:S 7=false:=(af hC (j:=7) rfl (by kernel_rfl) (af hC (j:=4) rfl (by kernel_rfl) hS));have hM5:=hM.1 hS0;have e3:=hI.1 3 (dy rfl);exact az [(3,_)] hU hmo hme hI hM (gM 3 rfl) rfl rfl (by kernel_rfl) ⟨e3,trivial⟩ (aa bx rfl) ai.rfl_ (rfl)
  constructor
  ·rintro S L' w6 hU hmo hme hI hM hC hS ⟨d3,-⟩;have hS0:S 7=false:=(af hC (j:=7) rfl (by kernel_rfl) hS);have hM6:=hM.1 hS0;obtain ⟨v6_18,e18,h18⟩:=hI.get (i:=3) (gM 3 rfl) d3;obtain rfl:=h18;exact az [(18,_)] hU hmo hme hI hM (gM 4 rfl) rfl rfl (by kernel_rfl) ⟨e18,trivial⟩ (au ak rfl (by exact (show _=some (Value.int .i64 m.f) from (hm3.from_ (ai.rfl_.next hM6)).rd 1 rfl))) ai.rfl_ (fun _=>rfl)
  constructor
  ·rintro S L' w7 hU hmo hme hI hM hC hS ⟨-⟩;have hS0:S 7=false:=(af hC (j:=7) rfl (by kernel_rfl) (af hC (j:=6) rfl (by kernel_rfl) hS));have hM7:=hM.1 hS0;have e3:=hI.1 3 (dy rfl);exact az [(3,_)] hU hmo hme hI hM (gM 5 rfl) rfl rfl (by kernel_rfl) ⟨e3,trivial⟩ (aa dg rfl) ai.rfl_ (rfl)
  constructor
  ·rintro S L' w8 hU hmo hme hI hM hC hS ⟨d5,-⟩;have hS0:S 7=false:=(af hC (j:=7) rfl (by kernel_rfl) hS);have hM8:=hM.1 hS0;obtain ⟨v8_20,e20,h20⟩:=hI.get (i:=5) (gM 5 rfl) d5;obtain rfl:=h20;exact az [(20,_)] hU hmo hme hI hM (gM 6 rfl) rfl rfl (by kernel_rfl) ⟨e20,trivial⟩ (au ak rfl (by exact (show _=some (Value.int .i64 m.rd) from (hm3.from_ (ai.rfl_.next hM8)).rd 7 rfl))) ai.rfl_ (fun _=>rfl)
  constructor
  ·rintro S L' w9 hU hmo hme hI hM hC hS ⟨d2,d4,d6,-⟩;have hS0:S 7=false:=hS;have hM9:=hM.1 hS0;obtain ⟨v9_17,e17,h17⟩:=hI.get (i:=2) (gM 2 rfl) d2;obtain rfl:=h17;obtain ⟨v9_19,e19,h19⟩:=hI.get (i:=4) (gM 4 rfl) d4;obtain rfl:=h19 hS0;obtain ⟨v9_21,e21,h21⟩:=hI.get (i:=6) (gM 6 rfl) d6;obtain rfl:=h21 hS0;refine df (al:=[.tmp 17,.tmp 19,.tmp 21]) [(17,_),(19,_),(21,_)] hU hI (gM 7 rfl) (by kernel_rfl) ⟨e17,e19,e21,trivial⟩ iF ((oV wm Z7 T g s [] _ (h3.from_ (ai.rfl_.next hM9)) hF m.f m.rd).mono ?_);rintro v9 w2 ⟨rfl,hS2⟩;exact ⟨⟨fun h0=>(by rw [dS] at h0;cases h0),fun _=>hS2⟩,rfl,⟨fun _ _ _ h=>h,fun _ _ _ h=>h,fun _ _ _ h=>h,fun _ _ _ h=>h,fun _ _ _ _ h0=>(by rw [dS] at h0;cases h0),fun _ _ _ h=>h,fun _ _ _ _ h0=>(by rw [dS] at h0;cases h0),fun _ _ _ h=>h,trivial⟩⟩
  exact trivial
 case hend=>
  intro w10 hM;obtain hS9:=hM.2 rfl;rintro v10_15 rfl v10_16 rfl v10_17 rfl v10_18 rfl v10_19-v10_20 rfl v10_21-v10_22 rfl;refine dY (ah (ao (ao (ag (ab (aa bJ rfl) ?_)))));obtain ⟨s1,hs1e⟩:∃ x,x=jd s m.f m.rd:=⟨_,rfl⟩;have hF1:RfF s1:=by rw [hs1e];exact hF.ack hf
  have hr1:s1.role=2:=by rw [hs1e];exact hro
  have hn1:s1.nodes=s.nodes:=by rw [hs1e];rfl
  have hl1:aQ s1=aQ s:=by rw [hs1e];rfl
  rw [←hs1e] at hS9;obtain ⟨tag5,⟨E,Ec,V,Vc,X,Xc,M,Mc,Sn,Sc,Q,Qc,LL⟩,O,oc,L,hs5⟩:=hS9.ex;have hll5:=hs5.m.l;have hXl:s1.next.length=s1.nodes.toNat:=by rw [hF1.nx.1,dP hr1]
  have hMl:s1.mtch.length=s1.nodes.toNat:=by rw [hF1.ma.1,dP hr1]
  have hSl:s1.sent.length=s1.nodes.toNat:=by rw [hF1.se.1,dP hr1]
  have hkX:k<s1.next.length:=by omega
  have hkM:k<s1.mtch.length:=by omega
  have hkS:k<s1.sent.length:=by omega
  have hnx:=hF1.nx.2 _ (List.getElem_mem hkX);have hma:=hF1.ma.2 _ (List.getElem_mem hkM);have hnn:=hF1.n;have hbl:=hF1.last;obtain ⟨gX,rfl⟩:∃ q,X=some ⟨q,0,none⟩:=du (n:=s1.next.length) (hs5.f.x (by decide)).1 (by omega);obtain ⟨gM,rfl⟩:∃ q,M=some ⟨q,0,none⟩:=du (n:=s1.mtch.length) (hs5.f.m (by decide)).1 (by omega);obtain ⟨gSn,rfl⟩:∃ q,Sn=some ⟨q,0,none⟩:=du (n:=s1.sent.length) (hs5.f.n (by decide)).1 (by omega);have hXr:World.ownsRow _ 0 3 1 (.slice (some ⟨gX,0,none⟩) s1.next.length Xc) s1.next.length (s1.next.map iV):=(hs5.f.x (by decide)).1;have hMr:World.ownsRow _ 0 3 1 (.slice (some ⟨gM,0,none⟩) s1.mtch.length Mc) s1.mtch.length (s1.mtch.map iV):=(hs5.f.m (by decide)).1;have hXc:=iY hXr hkX rfl;have hMc:=iY hMr hkM rfl;have hatX:=mY (l:=s1.next) hk hkX;have hatM:=mY (l:=s1.mtch) hk hkM;have he5:cQ _ (.slice E s1.es.length Ec) s1.es:=(aY.rd hs5.f).e;have hb5:=hs5.b;refine ab (au ak rfl (by exact (show _=some (Value.int .i64 m.k) from ((hS9.kept hzb hm9).from_ ai.rfl_).rd 0 rfl))) ?_;refine ab (bL (bo rfl rfl) (beq_eq_false_iff_ne.2 (by omega))) (aq (ah (aU rfl (aI (ah (ao (ag (mvp rfl (ab (av rfl) (ab (aa ay rfl) (aE ey (gv T g s1 _ _ _ (hb5.from_ ai.rfl_) (he5.from_ ai.rfl_) hF1.lg) ?_)))))))))));rintro v33 w11 ⟨rfl,E33⟩;refine mvt rfl (ab (aK rfl rfl) (ab (aK rfl rfl) (asi rfl (asi rfl (aq (ah (ao ?_)))))));apply br 22 [(36,eqp _),(37,eqp _),(38,eqp _),(39,eqp _),(40,eqp _),(41,eqp (.slice (some ⟨gX,0,none⟩) s1.next.length Xc)),(42,eqp _),(43,eqp (.int .i64 m.f)),(44,eqp (.int .i64 (k:Nat))),(45,eqp _),(46,eqp _),(47,eqp _),(48,eqp _),(49,eqp _),(50,eqp _),(51,eqp (.slice (some ⟨gM,0,none⟩) s1.mtch.length Mc)),(52,eqp _),(53,eqp (.int .i64 m.f)),(54,eqp (.int .i64 (k:Nat))),(55,eqp _),(6,eqp _),(7,eqp _)] (by repeat first | exact bN | refine bM ?_ | refine bB ?_) (by kernel_rfl) (by kernel_rfl) ⟨ae _,ae _,ae _,ae _,ae _,ae _,ae _,ae _,ae _,ae _,ae _,ae _,ae _,ae _,ae _,ae _,ae _,ae _,ae _,ae _,ae _,ae _,trivial⟩
  case hop=>
   constructor
   ·rintro-w13 D13;exact an (aC (v:=.pointer _) rfl) rfl
   constructor
   ·rintro-w14 D14;rintro _ rfl;exact an (av rfl) rfl
   constructor
   ·rintro-w15 D15;rintro _ rfl;exact an (aa ay rfl) rfl
   constructor
   ·rintro-w16 D16;rintro _ rfl;exact an (aa aw rfl) rfl
   constructor
   ·rintro-w17 D17;rintro _ rfl;exact an (aa ch rfl) rfl
   constructor
   ·rintro-w18 D18;rintro _ rfl;exact an (au bj rfl (by exact (show _=some (Value.slice (some ⟨gX,0,none⟩) s1.next.length Xc) from cB (hs5.b.from_ ((ai.rfl_.next E33).next D18)) 15 rfl))) rfl
   constructor
   ·rintro-w19 D19;exact an (aa bx rfl) rfl
   constructor
   ·rintro-w20 D20;rintro _ rfl;exact an (au ak rfl (by exact (show _=some (Value.int .i64 m.f) from ((hS9.kept hzb hm9).from_ ((ai.rfl_.next E33).next D20)).rd 1 rfl))) rfl
   constructor
   ·rintro-w21 D21;rintro v21_43 rfl;exact an (fg (dk rfl rfl (by omega)) (aZ (by omega))) rfl
   constructor
   ·rintro-w22 D22;rintro v22_41 rfl v22_44 rfl;exact an (bS a_ rfl rfl (by omega)) rfl
   constructor
   ·rintro-w23 D23;exact an (aC (v:=.pointer _) rfl) rfl
   constructor
   ·rintro-w24 D24;rintro _ rfl;exact an (av rfl) rfl
   constructor
   ·rintro-w25 D25;rintro _ rfl;exact an (aa ay rfl) rfl
   constructor
   ·rintro-w26 D26;rintro _ rfl;exact an (aa aw rfl) rfl
   constructor
   ·rintro-w27 D27;rintro _ rfl;exact an (aa cM rfl) rfl
   constructor
   ·rintro-w28 D28;rintro _ rfl;exact an (au bj rfl (by exact (show _=some (Value.slice (some ⟨gM,0,none⟩) s1.mtch.length Mc) from cB (hs5.b.from_ ((ai.rfl_.next E33).next D28)) 16 rfl))) rfl
   constructor
   ·rintro-w29 D29;exact an (aa bx rfl) rfl
   constructor
   ·rintro-w30 D30;rintro _ rfl;exact an (au ak rfl (by exact (show _=some (Value.int .i64 m.f) from ((hS9.kept hzb hm9).from_ ((ai.rfl_.next E33).next D30)).rd 1 rfl))) rfl
   constructor
   ·rintro-w31 D31;rintro v31_53 rfl;exact an (fg (dk rfl rfl (by omega)) (aZ (by omega))) rfl
   constructor
   ·rintro-w32 D32;rintro v32_51 rfl v32_54 rfl;exact an (bS a_ rfl rfl (by omega)) rfl
   constructor
   ·rintro-w33 D33;rintro _ rfl;exact an (cS (v:=.pointer _) rfl) rfl
   constructor
   ·rintro-w34 D34;rintro _ rfl;exact an (cS (v:=.pointer _) rfl) rfl
   exact trivial
  case hend=>
   intro w35 D35;rintro _ rfl _ rfl _ rfl _ rfl _ rfl v41 rfl _ rfl v43 rfl v44 rfl _ rfl _ rfl _ rfl _ rfl _ rfl _ rfl v51 rfl _ rfl v53 rfl v54 rfl _ rfl _ rfl _ rfl;show St ..;refine aq (ah (ao (ao (ag (ab (aa gz rfl) ?_)))));refine ab (au im rfl (show _=some (Value.bool true) from by rw [←hok];exact ((hS9.kept hzb hm9).from_ ((ai.rfl_.next E33).next D35)).rd 8 rfl)) ?_;refine ab (bL (cE rfl) rfl) (aq (ah (aU rfl (aI (ah (ao (ao (ag (ab (aa bW rfl) (ab (au ak rfl (by exact (show _=some (Value.int .i64 m.ix) from ((hS9.kept hzb hm9).from_ ((ai.rfl_.next E33).next D35)).rd 4 rfl))) ?_))))))))));refine mvi rfl (ab (bL (ct rfl rfl) (decide_eq_false (by omega))) (aq (ah (aU rfl (aI (ah (ao ?_)))))));apply br 8 [(92,eqp _),(93,eqp _),(94,eqp _),(95,eqp (.int .i64 s1.mtch[k])),(96,eqp _),(97,eqp (.int .i64 m.ix)),(98,eqp _),(99,eqp _)] (by repeat first | exact bN | refine bM ?_ | refine bB ?_) (by kernel_rfl) (by kernel_rfl) ⟨ae _,ae _,ae _,ae _,ae _,ae _,ae _,ae _,trivial⟩
   case hop=>
    constructor
    ·rintro-w37 D37;exact an (aC (v:=.pointer _) rfl) rfl
    constructor
    ·rintro-w38 D38;exact an (aC (v:=.pointer _) rfl) rfl
    constructor
    ·rintro-w39 D39;rintro _ rfl;exact an (av rfl) rfl
    constructor
    ·rintro-w40 D40;rintro _ rfl;exact an (au ak rfl (by exact eH (((ai.rfl_.next E33).next D35).next D40) hMc)) rfl
    constructor
    ·rintro-w41 D41;exact an (aa bW rfl) rfl
    constructor
    ·rintro-w42 D42;rintro _ rfl;exact an (au ak rfl (by exact (show _=some (Value.int .i64 m.ix) from ((hS9.kept hzb hm9).from_ (((ai.rfl_.next E33).next D35).next D42)).rd 4 rfl))) rfl
    constructor
    ·rintro-w43 D43;rintro v43_95 rfl v43_97 rfl;exact an (uh rfl rfl) rfl
    constructor
    ·rintro-w44 D44;rintro _ rfl;exact an (av rfl) rfl
    exact trivial
   case hend=>
    intro w45 D45;rintro _ rfl _ rfl _ rfl v95 rfl _ rfl v97 rfl _ rfl _ rfl;show St ..;have hMq12:ai _ w45:=(((ai.rfl_.next E33).next D35).next D45);refine fG (xs:=s1.mtch.map iV) bh rfl rfl rfl (show World.ownsRow _ 0 3 1 (.slice (some ⟨gM,0,none⟩) s1.mtch.length _) s1.mtch.length _ from (hs5.f.m (by decide)).1.kept_from hMq12) (by show k<s1.mtch.length;omega) ?_;intro w46 Oq12 Pq12;obtain ⟨hs6,h6⟩:=aF.rowM hS9 hs5 hk rfl hMq12 Oq12 (v:=max (s1.mtch[k]) m.ix) Pq12;refine aq (ah (ao (ag ?_)));have hMc2:=iY (l:=ck s1.mtch m.f (max (s1.mtch[k]) m.ix)) (show World.ownsRow _ 0 3 1 (.slice (some ⟨gM,0,none⟩) (ck s1.mtch m.f (max (s1.mtch[k]) m.ix)).length Mc) _ _ from (hs6.f.m (by decide)).1) (by rw [eg];omega) (pC hk (by rw [eg];omega));refine mvp rfl (mvp rfl (ab (av rfl) (ab (au ak rfl (by exact eH ai.rfl_ hMc2)) ?_)));refine ab (cl rfl rfl (by omega)) (ab (av rfl) ?_);have hMq13:ai _ w46:=ai.rfl_;refine fG (xs:=s1.next.map iV) bh rfl rfl rfl (show World.ownsRow _ 0 3 1 (.slice (some ⟨gX,0,none⟩) s1.next.length _) s1.next.length _ from (hs6.f.x (by decide)).1.kept_from hMq13) (by show k<s1.next.length;omega) ?_;intro w47 Oq13 Pq13;obtain ⟨hs7,h7⟩:=aF.rowX h6 hs6 hk rfl hMq13 Oq13 (v:=max (s1.mtch[k]) m.ix+1) Pq13;refine aq (ah (ao ?_));apply br 10 [(106,eqp _),(107,eqp _),(108,eqp _),(109,eqp _),(110,eqp _),(111,eqp (.slice (some ⟨gSn,0,none⟩) s1.sent.length Sc)),(112,eqp _),(113,eqp (.int .i64 m.f)),(114,eqp (.int .i64 (k:Nat))),(115,eqp _)] (by repeat first | exact bN | refine bM ?_ | refine bB ?_) (by kernel_rfl) (by kernel_rfl) ⟨ae _,ae _,ae _,ae _,ae _,ae _,ae _,ae _,ae _,ae _,trivial⟩
    case hop=>
     constructor
     ·rintro-w49 D49;exact an (aC (v:=.pointer _) rfl) rfl
     constructor
     ·rintro-w50 D50;rintro _ rfl;exact an (av rfl) rfl
     constructor
     ·rintro-w51 D51;rintro _ rfl;exact an (aa ay rfl) rfl
     constructor
     ·rintro-w52 D52;rintro _ rfl;exact an (aa aw rfl) rfl
     constructor
     ·rintro-w53 D53;rintro _ rfl;exact an (aa dc rfl) rfl
     constructor
     ·rintro-w54 D54;rintro _ rfl;exact an (au bj rfl (by exact (show _=some (Value.slice (some ⟨gSn,0,none⟩) s1.sent.length Sc) from cB (hs7.b.from_ (ai.rfl_.next D54)) 17 rfl))) rfl
     constructor
     ·rintro-w55 D55;exact an (aa bx rfl) rfl
     constructor
     ·rintro-w56 D56;rintro _ rfl;exact an (au ak rfl (by exact (show _=some (Value.int .i64 m.f) from ((h7.kept hzb hm9).from_ (ai.rfl_.next D56)).rd 1 rfl))) rfl
     constructor
     ·rintro-w57 D57;rintro v57_113 rfl;exact an (fg (dk rfl rfl (by omega)) (aZ (by omega))) rfl
     constructor
     ·rintro-w58 D58;rintro v58_111 rfl v58_114 rfl;exact an (bS a_ rfl rfl (by omega)) rfl
     exact trivial
    case hend=>
     intro w59 D59;rintro _ rfl _ rfl _ rfl _ rfl _ rfl v111 rfl _ rfl v113 rfl v114 rfl _ rfl;show St ..;have hMq14:ai _ w59:=(ai.rfl_.next D59);refine fG (xs:=s1.sent.map iV) bh rfl rfl rfl (show World.ownsRow _ 0 3 1 (.slice (some ⟨gSn,0,none⟩) s1.sent.length _) s1.sent.length _ from (hs7.f.n (by decide)).1.kept_from hMq14) (by show k<s1.sent.length;omega) ?_;intro w60 Oq14 Pq14;obtain ⟨hs8,h8⟩:=aF.rowS h7 hs7 hk rfl hMq14 Oq14 (v:=0) Pq14;refine aq (ah (ao (ag (mvp rfl (ab (av rfl) (ab (aa ay rfl) ?_))))));have hFO:RfF ({ s1 with mtch:=ck s1.mtch m.f (max (s1.mtch[k]) m.ix),next:=ck s1.next m.f (max (s1.mtch[k]) m.ix+1),sent:=ck s1.sent m.f 0 }:Rf):=((hF1.matchPut (k:=m.f) (v:=max (s1.mtch[k]) m.ix) (by omega)).nextPut (k:=m.f) (v:=max (s1.mtch[k]) m.ix+1) (by show 1≤_∧_≤aQ s1+1;omega)).sentPut (k:=m.f) (v:=0) ⟨Int.le_refl _,Int.natCast_nonneg _⟩;refine aE nj (nH wm Z7 T g ({ s1 with mtch:=ck s1.mtch m.f (max (s1.mtch[k]) m.ix),next:=ck s1.next m.f (max (s1.mtch[k]) m.ix+1),sent:=ck s1.sent m.f 0 }:Rf) [] _ (h8.from_ ai.rfl_) _ _ O oc L (hs8.from_ ai.rfl_) hFO hr1) ?_;rintro v119 w61 ⟨rfl,h9,tag9,hs9⟩;refine aq (ah (ao (ag (mvp rfl (ab (av rfl) ?_)))));have hXc2:=iY (l:=ck s1.next m.f (max (s1.mtch[k]) m.ix+1)) (show World.ownsRow _ 0 3 1 (.slice (some ⟨gX,0,none⟩) (ck s1.next m.f (max (s1.mtch[k]) m.ix+1)).length Xc) _ _ from (hs9.f.x (by decide)).1) (by rw [eg];omega) (pC hk (by rw [eg];omega));refine ab (au ak rfl (by exact eH ai.rfl_ hXc2)) ?_;refine mvi rfl (ab (fx rfl rfl) (aq (ah (yS rfl (fun Q62=>?_) (fun Q62=>?_)))))
     ·refine ag (mvp rfl (ab (aa bx rfl) (ab (au ak rfl (by exact (show _=some (Value.int .i64 m.f) from ((h9.kept hzb hm9).from_ ai.rfl_).rd 1 rfl))) ?_)));refine aE je (l5 wm Z7 T g ⟨(cH ({ s1 with mtch:=ck s1.mtch m.f (max (s1.mtch[k]) m.ix),next:=ck s1.next m.f (max (s1.mtch[k]) m.ix+1),sent:=ck s1.sent m.f 0 }:Rf)),[]⟩ _ (h9.from_ ai.rfl_) (hFO.settle hr1) hr1 (Nat.zero_le _) m.f (by show 1≤m.f∧m.f≤s1.nodes;omega)) ?_;rintro v128 w63 ⟨rfl,h10⟩;refine aq (cK (dU rfl ?_));have ham:at1 s.mtch m.f=s1.mtch[k]:=by rw [←hatM,hs1e];rfl
      have ham1:at1 s1.mtch m.f=s1.mtch[k]:=hatM;rw [tQ hro hk4 hok hi,ham,←hs1e];unfold tT;rw [ham1]
      first
       |(rw [if_pos (by omega)];exact ⟨rfl,h.back hE3 (h10.from_ ai.rfl_) hzi⟩)
       |(rw [if_neg (by omega)];exact ⟨rfl,h.back hE3 (h9.from_ ai.rfl_) hzi⟩)
     refine aI (cK (dU rfl ?_));have ham:at1 s.mtch m.f=s1.mtch[k]:=by rw [←hatM,hs1e];rfl
     have ham1:at1 s1.mtch m.f=s1.mtch[k]:=hatM;rw [tQ hro hk4 hok hi,ham,←hs1e];unfold tT;rw [ham1]
     first
      |(rw [if_pos (by omega)];exact ⟨rfl,h.back hE3 (h10.from_ ai.rfl_) hzi⟩)
      |(rw [if_neg (by omega)];exact ⟨rfl,h.back hE3 (h9.from_ ai.rfl_) hzi⟩)
theorem lX (w0:World) (Z:Nat→Prop) (T g:Nat) (s:Rf) (m:Msg) (w:World) (h:aF w0 Z w T g ⟨s,[]⟩) (hF:RfF s) (hf:1≤m.f∧m.f≤s.nodes) (hk:m.k=4∨m.k=6) (hix:0≤m.ix∧m.ix≤1099511627775) (hma0:0≤m.a):Rt prog 104 [.pointer (some ⟨g,0,none⟩),.agg (bT m).toArray] w fun v w'=>v=.tuple #[]∧aF w0 Z w' T g (fV s m):=by
 by_cases hro:s.role=2
 ·rcases hk with hk | hk
  ·cases hok:m.ok with
   |false=>exact xw w0 Z T g s m w h hF hf hro hk hix hok
   |true=>
    by_cases hi:m.ix≤aQ s
    ·exact xu w0 Z T g s m w h hF hf hro hk hix hok hi
    ·exact xy w0 Z T g s m w h hF hf hro hk hix hok (by omega)
  ·exact xr w0 Z T g s m w h hF hf hro hk hma0
 ·exact xz w0 Z T g s m w h hro
end Go.Proofs.YtkpooenofjdpmaaGreat
namespace Go.Proofs.YtkpooenofjdpmaaGreat
open Go.Proofs.Tryz (prog)
open Go.RowKit
open Go.ChangeShapes Go.WideShapes Go.ChangeAt
theorem gK:aN prog 104=true:=by kernel_rfl
theorem jK {s:Rf} {m:Msg} (h:s.term=m.tm) (hk:m.k=4∨m.k=6):cp s m=fV s m:=by
 unfold cp;simp only;rw [if_neg (show ¬ s.term<m.tm by omega),if_neg (show ¬ m.tm<s.term by omega),if_neg (by omega),if_neg (by omega),if_neg (by omega)]
theorem vJ (w0:World) (Z:Nat→Prop) (T g:Nat) (s:Rf) (m:Msg) (w:World) (h:aF w0 Z w T g ⟨s,[]⟩) (hF:RfF s) (_:m.tm≤1099511627775) (hk:m.k=4) (hf:1≤m.f∧m.f≤s.nodes) (hix:0≤m.ix∧m.ix≤1099511627775) (hma0:0≤m.a) (hgt:s.term=m.tm) :
 Rt prog 58 [.pointer (some ⟨g,0,none⟩),.agg (bT m).toArray] w (fun v w'=>v=.tuple #[]∧aF w0 Z w' T g (cp s m)):=by
 refine enter (n:=55) Tryz.func58 rfl rfl rfl (ao (ag (cj (v:=.agg _) rfl ?_)));intro b3 w1 E3 hb3 hk3;obtain ⟨wm,hwm⟩:∃ x,x=w1:=⟨_,rfl⟩
 have h3a:=h.at_ (Z':=fun k=>Z k∨k=b3) E3 (fun k hk=>by
  rcases hk with e | e
  ·exact ⟨Nat.lt_of_lt_of_le (h.zw k e) E3.size,.inl e⟩
  ·subst e;exact ⟨hk3.lt,.inr (by omega)⟩)
 obtain ⟨Z7,hZ7⟩:∃ Z7,Z7=fun k=>Z k∨k=b3:=⟨_,rfl⟩
 have h3:aF wm Z7 w1 T g ⟨s,[]⟩:=by
  rw [hZ7,hwm];exact h3a
 have hzi:∀ k,Z k→Z7 k:=fun k hk=>by rw [hZ7];exact .inl hk
 have hzb:Z7 b3:=by rw [hZ7];exact .inr rfl
 have hE3:ai w wm:=by rw [hwm];exact E3
 have hm9:Blk wm b3 39 (bT m).toArray:=by rw [hwm];exact hk3
 have hm3:=h3.kept hzb hm9;refine aq (ah (ao (ao ?_)))
 skip
 apply br 9 [(4,eqp _),(5,eqp (.int .i64 m.tm)),(6,eqp _),(7,eqp _),(8,eqp _),(9,eqp _),(10,eqp _),(11,eqp (.int .i64 s.term)),(12,eqp _)] (by repeat first | exact bN | refine bM ?_ | refine bB ?_) (by kernel_rfl) (by kernel_rfl) ⟨ae _,ae _,ae _,ae _,ae _,ae _,ae _,ae _,ae _,trivial⟩
 case hop=>
  constructor
  ·rintro-w3 D3;exact an (aa bG rfl) rfl
  constructor
  ·rintro-w4 D4;rintro _ rfl;exact an (au ak rfl (by exact (show _=some (Value.int .i64 m.tm) from (hm3.from_ (ai.rfl_.next D4)).rd 3 rfl))) rfl
  constructor
  ·rintro-w5 D5;exact an (aC (v:=.pointer _) rfl) rfl
  constructor
  ·rintro-w6 D6;rintro _ rfl;exact an (av rfl) rfl
  constructor
  ·rintro-w7 D7;rintro _ rfl;exact an (aa ay rfl) rfl
  constructor
  ·rintro-w8 D8;rintro _ rfl;exact an (aa aw rfl) rfl
  constructor
  ·rintro-w9 D9;rintro _ rfl;exact an (aa bE rfl) rfl
  constructor
  ·rintro-w10 D10;rintro _ rfl;exact an (au ak rfl (by exact (show _=some (Value.int .i64 s.term) from (h3.from_ (ai.rfl_.next D10)).rd (fun _=>rfl)))) rfl
  constructor
  ·rintro-w11 D11;rintro v11_5 rfl v11_11 rfl;exact an (bL (ct rfl rfl) (decide_eq_false (by omega))) rfl
  exact trivial
 case hend=>
  intro w12 D12;rintro _ rfl v5 rfl _ rfl _ rfl _ rfl _ rfl _ rfl v11 rfl _ rfl;show St ..;refine aq (ah (aU rfl (aI (ah (ao (ao ?_))))))
  skip
  apply br 9 [(19,eqp _),(20,eqp (.int .i64 m.tm)),(21,eqp _),(22,eqp _),(23,eqp _),(24,eqp _),(25,eqp _),(26,eqp (.int .i64 s.term)),(27,eqp _)] (by repeat first | exact bN | refine bM ?_ | refine bB ?_) (by kernel_rfl) (by kernel_rfl) ⟨ae _,ae _,ae _,ae _,ae _,ae _,ae _,ae _,ae _,trivial⟩
  case hop=>
   constructor
   ·rintro-w14 D14;exact an (aa bG rfl) rfl
   constructor
   ·rintro-w15 D15;rintro _ rfl;exact an (au ak rfl (by exact (show _=some (Value.int .i64 m.tm) from ((h3.kept hzb hm9).from_ ((ai.rfl_.next D12).next D15)).rd 3 rfl))) rfl
   constructor
   ·rintro-w16 D16;exact an (aC (v:=.pointer _) rfl) rfl
   constructor
   ·rintro-w17 D17;rintro _ rfl;exact an (av rfl) rfl
   constructor
   ·rintro-w18 D18;rintro _ rfl;exact an (aa ay rfl) rfl
   constructor
   ·rintro-w19 D19;rintro _ rfl;exact an (aa aw rfl) rfl
   constructor
   ·rintro-w20 D20;rintro _ rfl;exact an (aa bE rfl) rfl
   constructor
   ·rintro-w21 D21;rintro _ rfl;exact an (au ak rfl (by exact (show _=some (Value.int .i64 s.term) from (h3.from_ ((ai.rfl_.next D12).next D21)).rd (fun _=>rfl)))) rfl
   constructor
   ·rintro-w22 D22;rintro v22_20 rfl v22_26 rfl;exact an (bL (cA rfl rfl) (decide_eq_false (by have:=ec s m.tm;omega))) rfl
   exact trivial
  case hend=>
   intro w23 D23;rintro _ rfl v20 rfl _ rfl _ rfl _ rfl _ rfl _ rfl v26 rfl _ rfl;show St ..;refine aq (ah (aU rfl (aI (ah (ao (ag (ab (aa bJ rfl) (ab (au ak rfl (by exact (show _=some (Value.int .i64 m.k) from ((h3.kept hzb hm9).from_ ((ai.rfl_.next D12).next D23)).rd 0 rfl))) ?_))))))));refine aq (ah (bk (ao (ag (ab (bL (bo rfl rfl) (beq_eq_false_iff_ne.2 (by omega))) (asb rfl (aq (ah (aU rfl (ao (ag (ab (bL (bo rfl rfl) (beq_eq_false_iff_ne.2 (by omega))) (asb rfl (aq (ah ?_)))))))))))))));refine aU rfl (ao (ao (ag (ab (bL (bo rfl rfl) (beq_eq_false_iff_ne.2 (by omega))) (asb rfl (aq (ah (aU rfl (ag (ab (bL (bo rfl rfl) (beq_eq_false_iff_ne.2 (by omega))) (asb rfl ?_)))))))))));refine aq (ah (aU rfl (ao (ao (ag (ab (dX (bo rfl rfl) (beq_iff_eq.2 hk)) (asb rfl (aq (ah (aW rfl (aI (ah (aW rfl ?_)))))))))))));refine ag (mvp rfl (ab (aR (cs:=bT m) bp bg rfl (((h3.kept hzb hm9).from_ ((ai.rfl_.next D12).next D23)).whole)) (aE gK (lX wm Z7 T g s m _ (h3.from_ ((ai.rfl_.next D12).next D23)) hF hf (by omega) hix hma0) ?_)));rintro v54 w24 ⟨rfl,h6⟩;refine aq (bI (cK (dU rfl ?_)));rw [jK (by omega) (by omega)];exact ⟨rfl,h.back hE3 (h6.from_ ai.rfl_) hzi⟩
theorem vD (w0:World) (Z:Nat→Prop) (T g:Nat) (s:Rf) (m:Msg) (w:World) (h:aF w0 Z w T g ⟨s,[]⟩) (hF:RfF s) (ht:m.tm≤1099511627775) (hk:m.k=4) (hf:1≤m.f∧m.f≤s.nodes) (hix:0≤m.ix∧m.ix≤1099511627775) (hma0:0≤m.a) (hgt:s.term<m.tm) :
 Rt prog 58 [.pointer (some ⟨g,0,none⟩),.agg (bT m).toArray] w (fun v w'=>v=.tuple #[]∧aF w0 Z w' T g (cp s m)):=by
 have hFf:RfF (cF s m.tm):=hF.falls ht;have hf9:1≤m.f∧m.f≤(cF s m.tm).nodes:=by rw [(ia s m.tm).2.2.2.2.1];exact hf
 refine enter (n:=55) Tryz.func58 rfl rfl rfl (ao (ag (cj (v:=.agg _) rfl ?_)));intro b3 w1 E3 hb3 hk3;obtain ⟨wm,hwm⟩:∃ x,x=w1:=⟨_,rfl⟩
 have h3a:=h.at_ (Z':=fun k=>Z k∨k=b3) E3 (fun k hk=>by
  rcases hk with e | e
  ·exact ⟨Nat.lt_of_lt_of_le (h.zw k e) E3.size,.inl e⟩
  ·subst e;exact ⟨hk3.lt,.inr (by omega)⟩)
 obtain ⟨Z7,hZ7⟩:∃ Z7,Z7=fun k=>Z k∨k=b3:=⟨_,rfl⟩
 have h3:aF wm Z7 w1 T g ⟨s,[]⟩:=by
  rw [hZ7,hwm];exact h3a
 have hzi:∀ k,Z k→Z7 k:=fun k hk=>by rw [hZ7];exact .inl hk
 have hzb:Z7 b3:=by rw [hZ7];exact .inr rfl
 have hE3:ai w wm:=by rw [hwm];exact E3
 have hm9:Blk wm b3 39 (bT m).toArray:=by rw [hwm];exact hk3
 have hm3:=h3.kept hzb hm9;refine aq (ah (ao (ao ?_)))
 skip
 apply br 9 [(4,eqp _),(5,eqp (.int .i64 m.tm)),(6,eqp _),(7,eqp _),(8,eqp _),(9,eqp _),(10,eqp _),(11,eqp (.int .i64 s.term)),(12,eqp _)] (by repeat first | exact bN | refine bM ?_ | refine bB ?_) (by kernel_rfl) (by kernel_rfl) ⟨ae _,ae _,ae _,ae _,ae _,ae _,ae _,ae _,ae _,trivial⟩
 case hop=>
  constructor
  ·rintro-w3 D3;exact an (aa bG rfl) rfl
  constructor
  ·rintro-w4 D4;rintro _ rfl;exact an (au ak rfl (by exact (show _=some (Value.int .i64 m.tm) from (hm3.from_ (ai.rfl_.next D4)).rd 3 rfl))) rfl
  constructor
  ·rintro-w5 D5;exact an (aC (v:=.pointer _) rfl) rfl
  constructor
  ·rintro-w6 D6;rintro _ rfl;exact an (av rfl) rfl
  constructor
  ·rintro-w7 D7;rintro _ rfl;exact an (aa ay rfl) rfl
  constructor
  ·rintro-w8 D8;rintro _ rfl;exact an (aa aw rfl) rfl
  constructor
  ·rintro-w9 D9;rintro _ rfl;exact an (aa bE rfl) rfl
  constructor
  ·rintro-w10 D10;rintro _ rfl;exact an (au ak rfl (by exact (show _=some (Value.int .i64 s.term) from (h3.from_ (ai.rfl_.next D10)).rd (fun _=>rfl)))) rfl
  constructor
  ·rintro-w11 D11;rintro v11_5 rfl v11_11 rfl;exact an (dX (ct rfl rfl) (decide_eq_true hgt)) rfl
  exact trivial
 case hend=>
  intro w12 D12;rintro _ rfl v5 rfl _ rfl _ rfl _ rfl _ rfl _ rfl v11 rfl _ rfl;show St ..;refine aq (ah (aW rfl ?_));apply eE [(0,13,fun _ v _=>v=_),(1,14,fun _ v _=>v=_),(2,15,fun _ v _=>v=_),(3,16,fun _ v _=>v=_),(4,17,fun S v w9=>S 5=false→(eqp (.int .i64 m.tm)) v w9),(5,18,fun _ v _=>v=_)] [5] (fun S w'=>(S 5=false→ai w12 w')∧(S 5=true→aF wm Z7 w' T g ⟨cF s m.tm,[]⟩)) (by kernel_rfl) (by kernel_rfl) rfl rfl ⟨fun _ _ _ _ _ _ _ h=>h,fun _ _ _ _ _ _ _ h=>h,fun _ _ _ _ _ _ _ h=>h,fun _ _ _ _ _ _ _ h=>h,fun S i v w1 w2 hq hF h h0=>(ae _) v w1 w2 hF (h (en h0)),fun _ _ _ _ _ _ _ h=>h,trivial⟩ (fun S i w1 w2 hq hF h=>⟨fun h0=>(h.1 (en h0)).next hF,fun h1=>(fun h=>h.from_ hF) (h.2 (jn (show 5≠i by rintro rfl;exact absurd hq (by decide)) h1))⟩) ⟨fun _=>ai.rfl_.d1,fun h=>by cases h⟩
  case hstep=>
   constructor
   ·rintro S L' w13 hU hmo hme hI hM hC hS ⟨-⟩;have hS0:S 5=false:=(af hC (j:=5) rfl (by kernel_rfl) (af hC (j:=2) rfl (by kernel_rfl) (af hC (j:=1) rfl (by kernel_rfl) hS)));have hM13:=hM.1 hS0;have e0:=hI.1 0 (dy rfl);exact az [(0,_)] hU hmo hme hI hM (.head _) rfl rfl (by kernel_rfl) ⟨e0,trivial⟩ (aC (v:=.pointer _) rfl) ai.rfl_ (rfl)
   constructor
   ·rintro S L' w14 hU hmo hme hI hM hC hS ⟨d0,-⟩;have hS0:S 5=false:=(af hC (j:=5) rfl (by kernel_rfl) (af hC (j:=2) rfl (by kernel_rfl) hS));have hM14:=hM.1 hS0;obtain ⟨v14_13,e13,h13⟩:=hI.get (i:=0) (.head _) d0;obtain rfl:=h13;exact az [(13,_)] hU hmo hme hI hM (.tail _ (.head _)) rfl rfl (by kernel_rfl) ⟨e13,trivial⟩ (av rfl) ai.rfl_ (rfl)
   constructor
   ·rintro S L' w15 hU hmo hme hI hM hC hS ⟨d1,-⟩;have hS0:S 5=false:=(af hC (j:=5) rfl (by kernel_rfl) hS);have hM15:=hM.1 hS0;obtain ⟨v15_14,e14,h14⟩:=hI.get (i:=1) (.tail _ (.head _)) d1;obtain rfl:=h14;exact az [(14,_)] hU hmo hme hI hM (gM 2 rfl) rfl rfl (by kernel_rfl) ⟨e14,trivial⟩ (aa ay rfl) ai.rfl_ (rfl)
   constructor
   ·rintro S L' w16 hU hmo hme hI hM hC hS ⟨-⟩;have hS0:S 5=false:=(af hC (j:=5) rfl (by kernel_rfl) (af hC (j:=4) rfl (by kernel_rfl) hS));have hM16:=hM.1 hS0;have e3:=hI.1 3 (dy rfl);exact az [(3,_)] hU hmo hme hI hM (gM 3 rfl) rfl rfl (by kernel_rfl) ⟨e3,trivial⟩ (aa bG rfl) ai.rfl_ (rfl)
   constructor
   ·rintro S L' w17 hU hmo hme hI hM hC hS ⟨d3,-⟩;have hS0:S 5=false:=(af hC (j:=5) rfl (by kernel_rfl) hS);have hM17:=hM.1 hS0;obtain ⟨v17_16,e16,h16⟩:=hI.get (i:=3) (gM 3 rfl) d3;obtain rfl:=h16;exact az [(16,_)] hU hmo hme hI hM (gM 4 rfl) rfl rfl (by kernel_rfl) ⟨e16,trivial⟩ (au ak rfl (by exact (show _=some (Value.int .i64 m.tm) from (hm3.from_ ((ai.rfl_.next D12).next hM17)).rd 3 rfl))) ai.rfl_ (fun _=>rfl)
   constructor
   ·rintro S L' w18 hU hmo hme hI hM hC hS ⟨d2,d4,-⟩;have hS0:S 5=false:=hS;have hM18:=hM.1 hS0;obtain ⟨v18_15,e15,h15⟩:=hI.get (i:=2) (gM 2 rfl) d2;obtain rfl:=h15;obtain ⟨v18_17,e17,h17⟩:=hI.get (i:=4) (gM 4 rfl) d4;obtain rfl:=h17 hS0;refine df (al:=[.tmp 15,.tmp 17]) [(15,_),(17,_)] hU hI (gM 5 rfl) (by kernel_rfl) ⟨e15,e17,trivial⟩ il ((iR wm Z7 T g ⟨s,[]⟩ _ (h3.from_ ((ai.rfl_.next D12).next hM18)) m.tm).mono ?_);rintro v9 w2 ⟨rfl,hS2⟩;exact ⟨⟨fun h0=>(by rw [dS] at h0;cases h0),fun _=>hS2⟩,rfl,⟨fun _ _ _ h=>h,fun _ _ _ h=>h,fun _ _ _ h=>h,fun _ _ _ h=>h,fun _ _ _ _ h0=>(by rw [dS] at h0;cases h0),fun _ _ _ h=>h,trivial⟩⟩
   exact trivial
  case hend=>
   intro w19 hM;obtain hS9:=hM.2 rfl;rintro v19_13 rfl v19_14 rfl v19_15 rfl v19_16 rfl v19_17-v19_18 rfl;refine dY (ah (ao (ao ?_)))
   skip
   apply br 9 [(19,eqp _),(20,eqp (.int .i64 m.tm)),(21,eqp _),(22,eqp _),(23,eqp _),(24,eqp _),(25,eqp _),(26,eqp (.int .i64 (cF s m.tm).term)),(27,eqp _)] (by repeat first | exact bN | refine bM ?_ | refine bB ?_) (by kernel_rfl) (by kernel_rfl) ⟨ae _,ae _,ae _,ae _,ae _,ae _,ae _,ae _,ae _,trivial⟩
   case hop=>
    constructor
    ·rintro-w21 D21;exact an (aa bG rfl) rfl
    constructor
    ·rintro-w22 D22;rintro _ rfl;exact an (au ak rfl (by exact (show _=some (Value.int .i64 m.tm) from ((hS9.kept hzb hm9).from_ (ai.rfl_.next D22)).rd 3 rfl))) rfl
    constructor
    ·rintro-w23 D23;exact an (aC (v:=.pointer _) rfl) rfl
    constructor
    ·rintro-w24 D24;rintro _ rfl;exact an (av rfl) rfl
    constructor
    ·rintro-w25 D25;rintro _ rfl;exact an (aa ay rfl) rfl
    constructor
    ·rintro-w26 D26;rintro _ rfl;exact an (aa aw rfl) rfl
    constructor
    ·rintro-w27 D27;rintro _ rfl;exact an (aa bE rfl) rfl
    constructor
    ·rintro-w28 D28;rintro _ rfl;exact an (au ak rfl (by exact (show _=some (Value.int .i64 (cF s m.tm).term) from (hS9.from_ (ai.rfl_.next D28)).rd (fun _=>rfl)))) rfl
    constructor
    ·rintro-w29 D29;rintro v29_20 rfl v29_26 rfl;exact an (bL (cA rfl rfl) (decide_eq_false (by have:=ec s m.tm;omega))) rfl
    exact trivial
   case hend=>
    intro w30 D30;rintro _ rfl v20 rfl _ rfl _ rfl _ rfl _ rfl _ rfl v26 rfl _ rfl;show St ..;refine aq (ah (aU rfl (aI (ah (ao (ag (ab (aa bJ rfl) (ab (au ak rfl (by exact (show _=some (Value.int .i64 m.k) from ((hS9.kept hzb hm9).from_ (ai.rfl_.next D30)).rd 0 rfl))) ?_))))))));refine aq (ah (bk (ao (ag (ab (bL (bo rfl rfl) (beq_eq_false_iff_ne.2 (by omega))) (asb rfl (aq (ah (aU rfl (ao (ag (ab (bL (bo rfl rfl) (beq_eq_false_iff_ne.2 (by omega))) (asb rfl (aq (ah ?_)))))))))))))));refine aU rfl (ao (ao (ag (ab (bL (bo rfl rfl) (beq_eq_false_iff_ne.2 (by omega))) (asb rfl (aq (ah (aU rfl (ag (ab (bL (bo rfl rfl) (beq_eq_false_iff_ne.2 (by omega))) (asb rfl ?_)))))))))));refine aq (ah (aU rfl (ao (ao (ag (ab (dX (bo rfl rfl) (beq_iff_eq.2 hk)) (asb rfl (aq (ah (aW rfl (aI (ah (aW rfl ?_)))))))))))));refine ag (mvp rfl (ab (aR (cs:=bT m) bp bg rfl (((hS9.kept hzb hm9).from_ (ai.rfl_.next D30)).whole)) (aE gK (lX wm Z7 T g (cF s m.tm) m _ (hS9.from_ (ai.rfl_.next D30)) hFf hf9 (by omega) hix hma0) ?_)));rintro v54 w31 ⟨rfl,h6⟩;refine aq (bI (cK (dU rfl ?_)));rw [kq hgt,jK (by have:=ec s m.tm;omega) (by omega)];exact ⟨rfl,h.back hE3 (h6.from_ ai.rfl_) hzi⟩
theorem vH (w0:World) (Z:Nat→Prop) (T g:Nat) (s:Rf) (m:Msg) (w:World) (h:aF w0 Z w T g ⟨s,[]⟩) (hF:RfF s) (_:m.tm≤1099511627775) (hk:m.k=6) (hf:1≤m.f∧m.f≤s.nodes) (hix:0≤m.ix∧m.ix≤1099511627775) (hma0:0≤m.a) (hgt:s.term=m.tm) :
 Rt prog 58 [.pointer (some ⟨g,0,none⟩),.agg (bT m).toArray] w (fun v w'=>v=.tuple #[]∧aF w0 Z w' T g (cp s m)):=by
 refine enter (n:=55) Tryz.func58 rfl rfl rfl (ao (ag (cj (v:=.agg _) rfl ?_)));intro b3 w1 E3 hb3 hk3;obtain ⟨wm,hwm⟩:∃ x,x=w1:=⟨_,rfl⟩
 have h3a:=h.at_ (Z':=fun k=>Z k∨k=b3) E3 (fun k hk=>by
  rcases hk with e | e
  ·exact ⟨Nat.lt_of_lt_of_le (h.zw k e) E3.size,.inl e⟩
  ·subst e;exact ⟨hk3.lt,.inr (by omega)⟩)
 obtain ⟨Z7,hZ7⟩:∃ Z7,Z7=fun k=>Z k∨k=b3:=⟨_,rfl⟩
 have h3:aF wm Z7 w1 T g ⟨s,[]⟩:=by
  rw [hZ7,hwm];exact h3a
 have hzi:∀ k,Z k→Z7 k:=fun k hk=>by rw [hZ7];exact .inl hk
 have hzb:Z7 b3:=by rw [hZ7];exact .inr rfl
 have hE3:ai w wm:=by rw [hwm];exact E3
 have hm9:Blk wm b3 39 (bT m).toArray:=by rw [hwm];exact hk3
 have hm3:=h3.kept hzb hm9;refine aq (ah (ao (ao ?_)))
 skip
 apply br 9 [(4,eqp _),(5,eqp (.int .i64 m.tm)),(6,eqp _),(7,eqp _),(8,eqp _),(9,eqp _),(10,eqp _),(11,eqp (.int .i64 s.term)),(12,eqp _)] (by repeat first | exact bN | refine bM ?_ | refine bB ?_) (by kernel_rfl) (by kernel_rfl) ⟨ae _,ae _,ae _,ae _,ae _,ae _,ae _,ae _,ae _,trivial⟩
 case hop=>
  constructor
  ·rintro-w3 D3;exact an (aa bG rfl) rfl
  constructor
  ·rintro-w4 D4;rintro _ rfl;exact an (au ak rfl (by exact (show _=some (Value.int .i64 m.tm) from (hm3.from_ (ai.rfl_.next D4)).rd 3 rfl))) rfl
  constructor
  ·rintro-w5 D5;exact an (aC (v:=.pointer _) rfl) rfl
  constructor
  ·rintro-w6 D6;rintro _ rfl;exact an (av rfl) rfl
  constructor
  ·rintro-w7 D7;rintro _ rfl;exact an (aa ay rfl) rfl
  constructor
  ·rintro-w8 D8;rintro _ rfl;exact an (aa aw rfl) rfl
  constructor
  ·rintro-w9 D9;rintro _ rfl;exact an (aa bE rfl) rfl
  constructor
  ·rintro-w10 D10;rintro _ rfl;exact an (au ak rfl (by exact (show _=some (Value.int .i64 s.term) from (h3.from_ (ai.rfl_.next D10)).rd (fun _=>rfl)))) rfl
  constructor
  ·rintro-w11 D11;rintro v11_5 rfl v11_11 rfl;exact an (bL (ct rfl rfl) (decide_eq_false (by omega))) rfl
  exact trivial
 case hend=>
  intro w12 D12;rintro _ rfl v5 rfl _ rfl _ rfl _ rfl _ rfl _ rfl v11 rfl _ rfl;show St ..;refine aq (ah (aU rfl (aI (ah (ao (ao ?_))))))
  skip
  apply br 9 [(19,eqp _),(20,eqp (.int .i64 m.tm)),(21,eqp _),(22,eqp _),(23,eqp _),(24,eqp _),(25,eqp _),(26,eqp (.int .i64 s.term)),(27,eqp _)] (by repeat first | exact bN | refine bM ?_ | refine bB ?_) (by kernel_rfl) (by kernel_rfl) ⟨ae _,ae _,ae _,ae _,ae _,ae _,ae _,ae _,ae _,trivial⟩
  case hop=>
   constructor
   ·rintro-w14 D14;exact an (aa bG rfl) rfl
   constructor
   ·rintro-w15 D15;rintro _ rfl;exact an (au ak rfl (by exact (show _=some (Value.int .i64 m.tm) from ((h3.kept hzb hm9).from_ ((ai.rfl_.next D12).next D15)).rd 3 rfl))) rfl
   constructor
   ·rintro-w16 D16;exact an (aC (v:=.pointer _) rfl) rfl
   constructor
   ·rintro-w17 D17;rintro _ rfl;exact an (av rfl) rfl
   constructor
   ·rintro-w18 D18;rintro _ rfl;exact an (aa ay rfl) rfl
   constructor
   ·rintro-w19 D19;rintro _ rfl;exact an (aa aw rfl) rfl
   constructor
   ·rintro-w20 D20;rintro _ rfl;exact an (aa bE rfl) rfl
   constructor
   ·rintro-w21 D21;rintro _ rfl;exact an (au ak rfl (by exact (show _=some (Value.int .i64 s.term) from (h3.from_ ((ai.rfl_.next D12).next D21)).rd (fun _=>rfl)))) rfl
   constructor
   ·rintro-w22 D22;rintro v22_20 rfl v22_26 rfl;exact an (bL (cA rfl rfl) (decide_eq_false (by have:=ec s m.tm;omega))) rfl
   exact trivial
  case hend=>
   intro w23 D23;rintro _ rfl v20 rfl _ rfl _ rfl _ rfl _ rfl _ rfl v26 rfl _ rfl;show St ..;refine aq (ah (aU rfl (aI (ah (ao (ag (ab (aa bJ rfl) (ab (au ak rfl (by exact (show _=some (Value.int .i64 m.k) from ((h3.kept hzb hm9).from_ ((ai.rfl_.next D12).next D23)).rd 0 rfl))) ?_))))))));refine aq (ah (bk (ao (ag (ab (bL (bo rfl rfl) (beq_eq_false_iff_ne.2 (by omega))) (asb rfl (aq (ah (aU rfl (ao (ag (ab (bL (bo rfl rfl) (beq_eq_false_iff_ne.2 (by omega))) (asb rfl (aq (ah ?_)))))))))))))));refine aU rfl (ao (ao (ag (ab (bL (bo rfl rfl) (beq_eq_false_iff_ne.2 (by omega))) (asb rfl (aq (ah (aU rfl (ag (ab (bL (bo rfl rfl) (beq_eq_false_iff_ne.2 (by omega))) (asb rfl ?_)))))))))));refine aq (ah (aU rfl (ao (ao (ag (ab (bL (bo rfl rfl) (beq_eq_false_iff_ne.2 (by omega))) (asb rfl (aq (ah (aU rfl (ag (ab (dX (bo rfl rfl) (beq_iff_eq.2 hk)) ?_))))))))))));refine asb rfl (aq (ah (aW rfl (ag (mvp rfl (ab (aR (cs:=bT m) bp bg rfl (((h3.kept hzb hm9).from_ ((ai.rfl_.next D12).next D23)).whole)) (aE gK (lX wm Z7 T g s m _ (h3.from_ ((ai.rfl_.next D12).next D23)) hF hf (by omega) hix hma0) ?_)))))));rintro v54 w24 ⟨rfl,h6⟩;refine aq (bI (cK (dU rfl ?_)));rw [jK (by omega) (by omega)];exact ⟨rfl,h.back hE3 (h6.from_ ai.rfl_) hzi⟩
theorem vB (w0:World) (Z:Nat→Prop) (T g:Nat) (s:Rf) (m:Msg) (w:World) (h:aF w0 Z w T g ⟨s,[]⟩) (hF:RfF s) (ht:m.tm≤1099511627775) (hk:m.k=6) (hf:1≤m.f∧m.f≤s.nodes) (hix:0≤m.ix∧m.ix≤1099511627775) (hma0:0≤m.a) (hgt:s.term<m.tm) :
 Rt prog 58 [.pointer (some ⟨g,0,none⟩),.agg (bT m).toArray] w (fun v w'=>v=.tuple #[]∧aF w0 Z w' T g (cp s m)):=by
 have hFf:RfF (cF s m.tm):=hF.falls ht;have hf9:1≤m.f∧m.f≤(cF s m.tm).nodes:=by rw [(ia s m.tm).2.2.2.2.1];exact hf
 refine enter (n:=55) Tryz.func58 rfl rfl rfl (ao (ag (cj (v:=.agg _) rfl ?_)));intro b3 w1 E3 hb3 hk3;obtain ⟨wm,hwm⟩:∃ x,x=w1:=⟨_,rfl⟩
 have h3a:=h.at_ (Z':=fun k=>Z k∨k=b3) E3 (fun k hk=>by
  rcases hk with e | e
  ·exact ⟨Nat.lt_of_lt_of_le (h.zw k e) E3.size,.inl e⟩
  ·subst e;exact ⟨hk3.lt,.inr (by omega)⟩)
 obtain ⟨Z7,hZ7⟩:∃ Z7,Z7=fun k=>Z k∨k=b3:=⟨_,rfl⟩
 have h3:aF wm Z7 w1 T g ⟨s,[]⟩:=by
  rw [hZ7,hwm];exact h3a
 have hzi:∀ k,Z k→Z7 k:=fun k hk=>by rw [hZ7];exact .inl hk
 have hzb:Z7 b3:=by rw [hZ7];exact .inr rfl
 have hE3:ai w wm:=by rw [hwm];exact E3
 have hm9:Blk wm b3 39 (bT m).toArray:=by rw [hwm];exact hk3
 have hm3:=h3.kept hzb hm9;refine aq (ah (ao (ao ?_)))
 skip
 apply br 9 [(4,eqp _),(5,eqp (.int .i64 m.tm)),(6,eqp _),(7,eqp _),(8,eqp _),(9,eqp _),(10,eqp _),(11,eqp (.int .i64 s.term)),(12,eqp _)] (by repeat first | exact bN | refine bM ?_ | refine bB ?_) (by kernel_rfl) (by kernel_rfl) ⟨ae _,ae _,ae _,ae _,ae _,ae _,ae _,ae _,ae _,trivial⟩
 case hop=>
  constructor
  ·rintro-w3 D3;exact an (aa bG rfl) rfl
  constructor
  ·rintro-w4 D4;rintro _ rfl;exact an (au ak rfl (by exact (show _=some (Value.int .i64 m.tm) from (hm3.from_ (ai.rfl_.next D4)).rd 3 rfl))) rfl
  constructor
  ·rintro-w5 D5;exact an (aC (v:=.pointer _) rfl) rfl
  constructor
  ·rintro-w6 D6;rintro _ rfl;exact an (av rfl) rfl
  constructor
  ·rintro-w7 D7;rintro _ rfl;exact an (aa ay rfl) rfl
  constructor
  ·rintro-w8 D8;rintro _ rfl;exact an (aa aw rfl) rfl
  constructor
  ·rintro-w9 D9;rintro _ rfl;exact an (aa bE rfl) rfl
  constructor
  ·rintro-w10 D10;rintro _ rfl;exact an (au ak rfl (by exact (show _=some (Value.int .i64 s.term) from (h3.from_ (ai.rfl_.next D10)).rd (fun _=>rfl)))) rfl
  constructor
  ·rintro-w11 D11;rintro v11_5 rfl v11_11 rfl;exact an (dX (ct rfl rfl) (decide_eq_true hgt)) rfl
  exact trivial
 case hend=>
  intro w12 D12;rintro _ rfl v5 rfl _ rfl _ rfl _ rfl _ rfl _ rfl v11 rfl _ rfl;show St ..;refine aq (ah (aW rfl ?_));apply eE [(0,13,fun _ v _=>v=_),(1,14,fun _ v _=>v=_),(2,15,fun _ v _=>v=_),(3,16,fun _ v _=>v=_),(4,17,fun S v w9=>S 5=false→(eqp (.int .i64 m.tm)) v w9),(5,18,fun _ v _=>v=_)] [5] (fun S w'=>(S 5=false→ai w12 w')∧(S 5=true→aF wm Z7 w' T g ⟨cF s m.tm,[]⟩)) (by kernel_rfl) (by kernel_rfl) rfl rfl ⟨fun _ _ _ _ _ _ _ h=>h,fun _ _ _ _ _ _ _ h=>h,fun _ _ _ _ _ _ _ h=>h,fun _ _ _ _ _ _ _ h=>h,fun S i v w1 w2 hq hF h h0=>(ae _) v w1 w2 hF (h (en h0)),fun _ _ _ _ _ _ _ h=>h,trivial⟩ (fun S i w1 w2 hq hF h=>⟨fun h0=>(h.1 (en h0)).next hF,fun h1=>(fun h=>h.from_ hF) (h.2 (jn (show 5≠i by rintro rfl;exact absurd hq (by decide)) h1))⟩) ⟨fun _=>ai.rfl_.d1,fun h=>by cases h⟩
  case hstep=>
   constructor
   ·rintro S L' w13 hU hmo hme hI hM hC hS ⟨-⟩;have hS0:S 5=false:=(af hC (j:=5) rfl (by kernel_rfl) (af hC (j:=2) rfl (by kernel_rfl) (af hC (j:=1) rfl (by kernel_rfl) hS)));have hM13:=hM.1 hS0;have e0:=hI.1 0 (dy rfl);exact az [(0,_)] hU hmo hme hI hM (.head _) rfl rfl (by kernel_rfl) ⟨e0,trivial⟩ (aC (v:=.pointer _) rfl) ai.rfl_ (rfl)
   constructor
   ·rintro S L' w14 hU hmo hme hI hM hC hS ⟨d0,-⟩;have hS0:S 5=false:=(af hC (j:=5) rfl (by kernel_rfl) (af hC (j:=2) rfl (by kernel_rfl) hS));have hM14:=hM.1 hS0;obtain ⟨v14_13,e13,h13⟩:=hI.get (i:=0) (.head _) d0;obtain rfl:=h13;exact az [(13,_)] hU hmo hme hI hM (.tail _ (.head _)) rfl rfl (by kernel_rfl) ⟨e13,trivial⟩ (av rfl) ai.rfl_ (rfl)
   constructor
   ·rintro S L' w15 hU hmo hme hI hM hC hS ⟨d1,-⟩;have hS0:S 5=false:=(af hC (j:=5) rfl (by kernel_rfl) hS);have hM15:=hM.1 hS0;obtain ⟨v15_14,e14,h14⟩:=hI.get (i:=1) (.tail _ (.head _)) d1;obtain rfl:=h14;exact az [(14,_)] hU hmo hme hI hM (gM 2 rfl) rfl rfl (by kernel_rfl) ⟨e14,trivial⟩ (aa ay rfl) ai.rfl_ (rfl)
   constructor
   ·rintro S L' w16 hU hmo hme hI hM hC hS ⟨-⟩;have hS0:S 5=false:=(af hC (j:=5) rfl (by kernel_rfl) (af hC (j:=4) rfl (by kernel_rfl) hS));have hM16:=hM.1 hS0;have e3:=hI.1 3 (dy rfl);exact az [(3,_)] hU hmo hme hI hM (gM 3 rfl) rfl rfl (by kernel_rfl) ⟨e3,trivial⟩ (aa bG rfl) ai.rfl_ (rfl)
   constructor
   ·rintro S L' w17 hU hmo hme hI hM hC hS ⟨d3,-⟩;have hS0:S 5=false:=(af hC (j:=5) rfl (by kernel_rfl) hS);have hM17:=hM.1 hS0;obtain ⟨v17_16,e16,h16⟩:=hI.get (i:=3) (gM 3 rfl) d3;obtain rfl:=h16;exact az [(16,_)] hU hmo hme hI hM (gM 4 rfl) rfl rfl (by kernel_rfl) ⟨e16,trivial⟩ (au ak rfl (by exact (show _=some (Value.int .i64 m.tm) from (hm3.from_ ((ai.rfl_.next D12).next hM17)).rd 3 rfl))) ai.rfl_ (fun _=>rfl)
   constructor
   ·rintro S L' w18 hU hmo hme hI hM hC hS ⟨d2,d4,-⟩;have hS0:S 5=false:=hS;have hM18:=hM.1 hS0;obtain ⟨v18_15,e15,h15⟩:=hI.get (i:=2) (gM 2 rfl) d2;obtain rfl:=h15;obtain ⟨v18_17,e17,h17⟩:=hI.get (i:=4) (gM 4 rfl) d4;obtain rfl:=h17 hS0;refine df (al:=[.tmp 15,.tmp 17]) [(15,_),(17,_)] hU hI (gM 5 rfl) (by kernel_rfl) ⟨e15,e17,trivial⟩ il ((iR wm Z7 T g ⟨s,[]⟩ _ (h3.from_ ((ai.rfl_.next D12).next hM18)) m.tm).mono ?_);rintro v9 w2 ⟨rfl,hS2⟩;exact ⟨⟨fun h0=>(by rw [dS] at h0;cases h0),fun _=>hS2⟩,rfl,⟨fun _ _ _ h=>h,fun _ _ _ h=>h,fun _ _ _ h=>h,fun _ _ _ h=>h,fun _ _ _ _ h0=>(by rw [dS] at h0;cases h0),fun _ _ _ h=>h,trivial⟩⟩
   exact trivial
  case hend=>
   intro w19 hM;obtain hS9:=hM.2 rfl;rintro v19_13 rfl v19_14 rfl v19_15 rfl v19_16 rfl v19_17-v19_18 rfl;refine dY (ah (ao (ao ?_)))
   skip
   apply br 9 [(19,eqp _),(20,eqp (.int .i64 m.tm)),(21,eqp _),(22,eqp _),(23,eqp _),(24,eqp _),(25,eqp _),(26,eqp (.int .i64 (cF s m.tm).term)),(27,eqp _)] (by repeat first | exact bN | refine bM ?_ | refine bB ?_) (by kernel_rfl) (by kernel_rfl) ⟨ae _,ae _,ae _,ae _,ae _,ae _,ae _,ae _,ae _,trivial⟩
   case hop=>
    constructor
    ·rintro-w21 D21;exact an (aa bG rfl) rfl
    constructor
    ·rintro-w22 D22;rintro _ rfl;exact an (au ak rfl (by exact (show _=some (Value.int .i64 m.tm) from ((hS9.kept hzb hm9).from_ (ai.rfl_.next D22)).rd 3 rfl))) rfl
    constructor
    ·rintro-w23 D23;exact an (aC (v:=.pointer _) rfl) rfl
    constructor
    ·rintro-w24 D24;rintro _ rfl;exact an (av rfl) rfl
    constructor
    ·rintro-w25 D25;rintro _ rfl;exact an (aa ay rfl) rfl
    constructor
    ·rintro-w26 D26;rintro _ rfl;exact an (aa aw rfl) rfl
    constructor
    ·rintro-w27 D27;rintro _ rfl;exact an (aa bE rfl) rfl
    constructor
    ·rintro-w28 D28;rintro _ rfl;exact an (au ak rfl (by exact (show _=some (Value.int .i64 (cF s m.tm).term) from (hS9.from_ (ai.rfl_.next D28)).rd (fun _=>rfl)))) rfl
    constructor
    ·rintro-w29 D29;rintro v29_20 rfl v29_26 rfl;exact an (bL (cA rfl rfl) (decide_eq_false (by have:=ec s m.tm;omega))) rfl
    exact trivial
   case hend=>
    intro w30 D30;rintro _ rfl v20 rfl _ rfl _ rfl _ rfl _ rfl _ rfl v26 rfl _ rfl;show St ..;refine aq (ah (aU rfl (aI (ah (ao (ag (ab (aa bJ rfl) (ab (au ak rfl (by exact (show _=some (Value.int .i64 m.k) from ((hS9.kept hzb hm9).from_ (ai.rfl_.next D30)).rd 0 rfl))) ?_))))))));refine aq (ah (bk (ao (ag (ab (bL (bo rfl rfl) (beq_eq_false_iff_ne.2 (by omega))) (asb rfl (aq (ah (aU rfl (ao (ag (ab (bL (bo rfl rfl) (beq_eq_false_iff_ne.2 (by omega))) (asb rfl (aq (ah ?_)))))))))))))));refine aU rfl (ao (ao (ag (ab (bL (bo rfl rfl) (beq_eq_false_iff_ne.2 (by omega))) (asb rfl (aq (ah (aU rfl (ag (ab (bL (bo rfl rfl) (beq_eq_false_iff_ne.2 (by omega))) (asb rfl ?_)))))))))));refine aq (ah (aU rfl (ao (ao (ag (ab (bL (bo rfl rfl) (beq_eq_false_iff_ne.2 (by omega))) (asb rfl (aq (ah (aU rfl (ag (ab (dX (bo rfl rfl) (beq_iff_eq.2 hk)) ?_))))))))))));refine asb rfl (aq (ah (aW rfl (ag (mvp rfl (ab (aR (cs:=bT m) bp bg rfl (((hS9.kept hzb hm9).from_ (ai.rfl_.next D30)).whole)) (aE gK (lX wm Z7 T g (cF s m.tm) m _ (hS9.from_ (ai.rfl_.next D30)) hFf hf9 (by omega) hix hma0) ?_)))))));rintro v54 w31 ⟨rfl,h6⟩;refine aq (bI (cK (dU rfl ?_)));rw [kq hgt,jK (by have:=ec s m.tm;omega) (by omega)];exact ⟨rfl,h.back hE3 (h6.from_ ai.rfl_) hzi⟩
theorem vG (w0:World) (Z:Nat→Prop) (T g:Nat) (s:Rf) (m:Msg) (w:World) (h:aF w0 Z w T g ⟨s,[]⟩) (hF:RfF s) (ht:m.tm≤1099511627775) (hk:m.k=4) (hf:1≤m.f∧m.f≤s.nodes) (hix:0≤m.ix∧m.ix≤1099511627775) (hma0:0≤m.a):Rt prog 58 [.pointer (some ⟨g,0,none⟩),.agg (bT m).toArray] w fun v w'=>v=.tuple #[]∧aF w0 Z w' T g (cp s m):=by
 rcases Int.lt_trichotomy m.tm s.term with h1 | h1 | h1
 ·exact qY w0 Z T g s m w h h1
 ·exact vJ w0 Z T g s m w h hF ht hk hf hix hma0 h1.symm
 ·exact vD w0 Z T g s m w h hF ht hk hf hix hma0 h1
theorem vE (w0:World) (Z:Nat→Prop) (T g:Nat) (s:Rf) (m:Msg) (w:World) (h:aF w0 Z w T g ⟨s,[]⟩) (hF:RfF s) (ht:m.tm≤1099511627775) (hk:m.k=6) (hf:1≤m.f∧m.f≤s.nodes) (hix:0≤m.ix∧m.ix≤1099511627775) (hma0:0≤m.a):Rt prog 58 [.pointer (some ⟨g,0,none⟩),.agg (bT m).toArray] w fun v w'=>v=.tuple #[]∧aF w0 Z w' T g (cp s m):=by
 rcases Int.lt_trichotomy m.tm s.term with h1 | h1 | h1
 ·exact qY w0 Z T g s m w h h1
 ·exact vH w0 Z T g s m w h hF ht hk hf hix hma0 h1.symm
 ·exact vB w0 Z T g s m w h hF ht hk hf hix hma0 h1
end Go.Proofs.YtkpooenofjdpmaaGreat
namespace Go.Proofs.YtkpooenofjdpmaaGreat
open Go.Proofs.Tryz (prog)
open Go.RowKit
open Go.ChangeShapes Go.WideShapes Go.ChangeAt
open Go.RowKit
def LD (sn:ByteArray) (el rn a:Int):Rf:={ id:=1,nodes:=2,role:=2,term:=2,vote:=0,leader:=1,b:=5,t:=1,es:=[],snap:=sn,commit:=5,elapsed:=el,timeout:=0,seed:=0,votes:=[],next:=[6,5],mtch:=[5,0],sent:=[0,a],round:=rn,reads:=[],part:=⟨#[]⟩,partOf:=0 }
def LE (sn:ByteArray):Rf:={ LD sn 0 1 0 with next:=[6,6],mtch:=[5,5] }
def F0 (T Sd:Int):Rf:={ zR with id:=2,nodes:=2,seed:=Sd,timeout:=T }
def FL (T Sd:Int):Rf:={ F0 T Sd with term:=2,leader:=1 }
def FP (T Sd:Int) (p:ByteArray):Rf:={ FL T Sd with part:=p,partOf:=5 }
def FI (T Sd:Int) (sn:ByteArray):Rf:={ FL T Sd with b:=5,t:=1,snap:=sn,commit:=5 }
def AM (sn:ByteArray) (a:Nat):Msg:={ zM with k:=5,f:=1,t:=2,tm:=2,ix:=5,lt:=1,rd:=1,a:=(a:Int),d:=sn.extract a (min (a+1024) sn.size),dn:=decide (min (a+1024) sn.size=sn.size) }
def TS (a:Nat):Msg:={ zM with k:=6,f:=2,t:=1,tm:=2,ix:=5,a:=(a:Int),rd:=1 }
def TA:Msg:={ zM with k:=4,f:=2,t:=1,tm:=2,ok:=true,ix:=5,rd:=1 }
theorem ib (sn:ByteArray) {a e:Nat} (h:e≤sn.size):(sn.extract a e).size=e-a:=by
 rw [ByteArray.size_extract];omega
theorem sG (sn:ByteArray) {a e:Nat} (h1:a≤e) (_:e≤sn.size):sn.extract 0 a++sn.extract a e=sn.extract 0 e:=by
 apply ByteArray.ext;rw [ByteArray.data_append,ByteArray.data_extract,ByteArray.data_extract,ByteArray.data_extract,Array.extract_append_extract]
 congr 1 <;> omega
theorem wz (sn:ByteArray):sn.extract 0 sn.size=sn:=by
 apply ByteArray.ext;rw [ByteArray.data_extract];exact Array.extract_size
variable {T Sd:Int} {sn p:ByteArray} {a:Nat}
theorem lY:cp (FP T Sd p) (AM sn a)=jy (FP T Sd p) (AM sn a):=by
 rw [kr rfl (.inr rfl),k_ (by show (0:Int)≠2;decide) rfl];exact kW (s:=FP T Sd p) (m:=AM sn a) (by show ¬ ((5:Int)≤0∨(1:Int)<dz 0 0 [] 0);decide)
theorem vN:cp (F0 T Sd) (AM sn a)=jy (FL T Sd) (AM sn a):=by
 rw [kq (by show (0:Int)<2;decide)];show cp { F0 T Sd with term:=2 } (AM sn a)=_;rw [kr rfl (.inr rfl),k_ (by show (0:Int)≠2;decide) rfl];exact kW (s:=FL T Sd) (m:=AM sn a) (by show ¬ ((5:Int)≤0∨(1:Int)<dz 0 0 [] 0);decide)
theorem vM:cp (FI T Sd sn) (AM sn a)=⟨FI T Sd sn,[TA]⟩:=by
 rw [kr rfl (.inr rfl),k_ (by show (0:Int)≠2;decide) rfl];exact mH (s:=FI T Sd sn) (m:=AM sn a) (.inl (by show (5:Int)≤5;decide))
theorem p0 {s:Rf} (hs:pR s (AM sn a)=FP T Sd p) (hp:p.size=a) (ha:a+1024<sn.size) (hn:sn.size≤524288):jy s (AM sn a)=⟨FP T Sd (p++sn.extract a (a+1024)),[TS (a+1024)]⟩:=by
 have e1:(AM sn a).d=sn.extract a (a+1024):=by show sn.extract a (min (a+1024) sn.size)=_;rw [Nat.min_eq_left (by omega)]
 have e2:(AM sn a).dn=false:=decide_eq_false (by omega);have e3:fP (FP T Sd p) (AM sn a)=true:=rJ (by show ((a:Nat):Int)=(p.size:Int);omega) (by show p.size+(AM sn a).d.size≤524288;rw [e1,ib sn (by omega)];omega);rw [oR (u:=FP T Sd (p++sn.extract a (a+1024))) hs.symm e3.symm (by show FP T Sd (p++_)=FP T Sd (p++(AM sn a).d);rw [e1]) (by rw [e2];rfl)];show (⟨FP T Sd (p++sn.extract a (a+1024)),[{ zM with k:=6,f:=2,t:=1,tm:=2,ix:=5,a:=((p++sn.extract a (a+1024)).size:Int),rd:=1 }]⟩:Sp)=_;rw [ByteArray.size_append,ib sn (by omega),hp,show a+(a+1024-a)=a+1024 by omega];rfl
theorem tu {s:Rf} (hs:pR s (AM sn a)=FP T Sd p) (hp:p.size=a) (ha:a≤sn.size∧sn.size≤a+1024) (hn:sn.size≤524288):jy s (AM sn a)=⟨FI T Sd (p++sn.extract a sn.size),[TA]⟩:=by
 have e1:(AM sn a).d=sn.extract a sn.size:=by show sn.extract a (min (a+1024) sn.size)=_;rw [Nat.min_eq_right (by omega)]
 have e2:(AM sn a).dn=true:=decide_eq_true (by omega);have e3:fP (FP T Sd p) (AM sn a)=true:=rJ (by show ((a:Nat):Int)=(p.size:Int);omega) (by show p.size+(AM sn a).d.size≤524288;rw [e1,ib sn (Nat.le_refl _)];omega);rw [u6 (u:=FP T Sd (p++sn.extract a sn.size)) hs.symm e3.symm (by show FP T Sd (p++_)=FP T Sd (p++(AM sn a).d);rw [e1]) (by rw [e2];rfl)]
 have e4:jY (FP T Sd (p++sn.extract a sn.size)) 5 1=FI T Sd (p++sn.extract a sn.size):=by
  have e5:pQ (FP T Sd (p++sn.extract a sn.size)) 5 1=false:=l8 (fun e=>absurd e.1 (by show ¬ (5:Int)≤0;decide));unfold jY;rw [e5];rfl
 show (iM ⟨jY (FP T Sd (p++sn.extract a sn.size)) 5 1,[]⟩ (AM sn a) true 5:Sp)=_;rw [e4];rfl
theorem mX (hp:p.size≠a):jy (FP T Sd p) (AM sn a)=⟨FP T Sd p,[TS p.size]⟩:=by
 have e3:fP (FP T Sd p) (AM sn a)=false:=uW (by show ((a:Nat):Int)≠(p.size:Int);omega);rw [oR (u:=FP T Sd p) (p:=FP T Sd p) (vW rfl).symm e3.symm rfl rfl];rfl
theorem wT:pR (FP T Sd p) (AM sn a)=FP T Sd p:=vW rfl
theorem yz:pR (FL T Sd) (AM sn a)=FP T Sd ⟨#[]⟩:=xP (by show (0:Int)≠5;decide)
theorem vK {b:Int} {a:Nat} (ha:a≤sn.size):cp (LD sn 0 1 b) (TS a)=⟨LD sn 0 1 (a:Int),[AM sn a]⟩:=by
 rw [jK rfl (.inr rfl)];show (if (5:Int)=5∧(5:Int)≤5∧((a:Nat):Int)≤(sn.size:Int) then Sp.send ⟨LD sn 0 1 (a:Int),[]⟩ 2 else _)=_;rw [if_pos ⟨rfl,by decide,by omega⟩];rfl
theorem yD:med [5,5]=5:=by
 have h:=oH (L:=[5,5]) (by decide);simpa using h
theorem vL {b:Int}:cp (LD sn 0 1 b) TA=⟨LE sn,[]⟩:=by
 rw [jK rfl (.inl rfl)]
 have h1:cH { LD sn 0 1 b with mtch:=[5,5],next:=[6,6],sent:=[0,0] }=LE sn:=by
  unfold cH;show ({ LE sn with commit:=if (5:Int)<med [5,5]∧dz 5 1 [] (med [5,5])=2 then med [5,5] else 5 }:Rf)=_;rw [yD,if_neg (fun e=>absurd e.1 (by decide))];rfl
 show (if (5:Int)+1≤5 then Sp.send ⟨cH { LD sn 0 1 b with mtch:=[5,5],next:=[6,6],sent:=[0,0] },[]⟩ 2 else (⟨cH { LD sn 0 1 b with mtch:=[5,5],next:=[6,6],sent:=[0,0] },[]⟩:Sp))=_;rw [if_neg (by decide),h1]
theorem pf (_:sn.size≤524288):fJ (LD sn 0 0 0)=⟨LD sn 1 0 0,[]⟩∧fJ (LD sn 1 0 0)=⟨LD sn 0 1 0,[AM sn 0]⟩:=⟨rfl,rfl⟩
theorem oI {el rn a:Int} (hn:sn.size≤524288) (he:0≤el∧el≤5) (hr:0≤rn∧rn≤5) (ha:0≤a∧a≤(sn.size:Int)):jo (LD sn el rn a)=true:=by
 have h1:inb 0 1099511627775 el=true:=eh (by omega);have h2:inb 0 1099511627775 rn=true:=eh (by omega)
 have h3:kF [0,a] 2 0 sn.size=true:=by
  unfold kF;simp only [List.all_cons,List.all_nil,Bool.and_eq_true,decide_eq_true_eq,Bool.and_true];refine ⟨rfl,⟨by decide,by omega⟩,by omega,by omega⟩
 show (true&&true&&true&&true&&true&&true&&true&&true&&decide (sn.size≤524288)&&true&&inb 0 1099511627775 el&&true&&inb 0 1099511627775 rn&&true&&true&&true&&true&&true&&true&&true&&true&&kF [0,a] 2 0 sn.size&&true&&true&&true)=true;rw [h1,h2,h3,decide_eq_true hn];rfl
theorem k8 {T Sd:Int} {x:Rf} (hT:0≤T∧T≤1000) (h:x=F0 T Sd∨(∃ p:ByteArray,x=FP T Sd p∧p.size≤524288)∨(∃ sn:ByteArray,x=FI T Sd sn∧sn.size≤524288)):jo x=true:=by
 have h1:inb 0 1099511627775 T=true:=eh (by omega);rcases h with rfl | ⟨p,rfl,hp⟩ | ⟨sn,rfl,hp⟩
 ·show (true&&true&&true&&true&&true&&true&&true&&true&&true&&true&&true&&inb 0 1099511627775 T&&true&&true&&true&&true&&true&&true&&true&&true&&true&&true&&true&&true&&true)=true;rw [h1];rfl
 ·show (true&&true&&true&&true&&true&&true&&true&&true&&true&&true&&true&&inb 0 1099511627775 T&&true&&true&&true&&true&&decide (p.size≤524288)&&true&&true&&true&&true&&true&&true&&true&&true)=true;rw [h1,decide_eq_true hp];rfl
 ·show (true&&true&&true&&true&&true&&true&&true&&true&&decide (sn.size≤524288)&&true&&true&&inb 0 1099511627775 T&&true&&true&&true&&true&&true&&true&&true&&true&&true&&true&&true&&true&&true)=true;rw [h1,decide_eq_true hp];rfl
theorem oM {s:Rf} {m:Msg} (h1:jk m.k m.f m.t m.tm m.ix m.lt m.cm m.rd m.a) (h2:ExR m.k m.ix m.lt m.cm m.rd m.ok m.es.length m.a m.d m.dn) (h3:si m.k m.ix m.lt m.es) (h4:ir m.k m.ix m.a m.d) (h5:uT s m=true):lQ s m:=And.intro (And.intro h1 (And.intro h2 (And.intro h3 h4))) h5
theorem ry {k f t:Int} {a:Nat} (hk:1≤k∧k≤6) (hf:1≤f∧f≤7) (ht:1≤t∧t≤7) {lt:Int} (hlt:0≤lt∧lt≤1) (ha:a≤1000000):jk k f t 2 5 lt 0 1 (a:Int):=by
 unfold jk;omega
theorem jQ {s:Rf} (hi:s.id=2) (hn:s.nodes=2) (hs:sn.size≤524288) (ha:a≤sn.size):lQ s (AM sn a):=by
 have hd:(AM sn a).d.size≤1024:=by
  show (sn.extract a (min (a+1024) sn.size)).size≤1024;rw [ib sn (Nat.min_le_right _ _)];omega
 refine oM (m:=AM sn a) (ry (k:=5) (f:=1) (t:=2) (a:=a) (lt:=1) (by decide) (by decide) (by decide) (by decide) (by omega)) ?_ (fun e=>absurd e (by show ¬ (5:Int)=3;decide)) (fun _=>⟨by show (1:Int)≤5∧(5:Int)≤1099511625728;decide,by show (a:Int)≤524288;omega,hd⟩) ?_
 ·show ExR 5 5 1 0 1 false 0 _ _ _;unfold ExR;rw [if_neg (by decide),if_neg (by decide),if_neg (by decide),if_neg (by decide),if_pos rfl];exact ⟨rfl,rfl,rfl⟩
 ·rw [eR];exact ⟨by rw [hi];rfl,by rw [hi];show (1:Int)≠2;decide,by rw [hn];show (1:Int)≤2;decide,fun _=>⟨by show (1:Int)≤2;decide,fun e he=>by cases he⟩⟩
theorem wx {b:Int} {a:Nat} (ha:a≤524288):lQ (LD sn 0 1 b) (TS a):=by
 refine oM (m:=TS a) (ry (k:=6) (f:=2) (t:=1) (a:=a) (lt:=0) (by decide) (by decide) (by decide) (by decide) (by omega)) ?_ (fun e=>absurd e (by show ¬ (6:Int)=3;decide)) (fun e=>absurd e (by show ¬ (6:Int)=5;decide)) ?_
 ·show ExR 6 5 0 0 1 false 0 _ _ _;unfold ExR;rw [if_neg (by decide),if_neg (by decide),if_neg (by decide),if_neg (by decide),if_neg (by decide),if_pos rfl];exact ⟨rfl,rfl,rfl,rfl,rfl,rfl⟩
 ·rw [eR];exact ⟨rfl,by show (2:Int)≠1;decide,by show (2:Int)≤2;decide,fun e=>absurd e (by show ¬ ((6:Int)=3∨(6:Int)=5);decide)⟩
theorem wy {b:Int}:lQ (LD sn 0 1 b) TA:=by
 refine oM (m:=TA) (ry (k:=4) (f:=2) (t:=1) (a:=0) (lt:=0) (by decide) (by decide) (by decide) (by decide) (by omega)) ?_ (fun e=>absurd e (by show ¬ (4:Int)=3;decide)) (fun e=>absurd e (by show ¬ (4:Int)=5;decide)) ?_
 ·show ExR 4 5 0 0 1 true 0 _ _ _;unfold ExR;rw [if_neg (by decide),if_neg (by decide),if_neg (by decide),if_pos rfl];exact ⟨rfl,rfl,rfl,rfl,rfl,rfl⟩
 ·rw [eR];exact ⟨rfl,by show (2:Int)≠1;decide,by show (2:Int)≤2;decide,fun e=>absurd e (by show ¬ ((4:Int)=3∨(4:Int)=5);decide)⟩
inductive Ph (T Sd:Int) (sn:ByteArray):Nat→Rf→Rf→List Msg→Prop where
 |ask0:Ph T Sd sn 0 (LD sn 0 1 0) (F0 T Sd) [AM sn 0]
 |ask (j:Nat) (h:1024*(j+1)<sn.size):Ph T Sd sn (2*(j+1)) (LD sn 0 1 ((1024*(j+1):Nat):Int)) (FP T Sd (sn.extract 0 (1024*(j+1)))) [AM sn (1024*(j+1))]
 |tell (j:Nat) (b:Int) (hb:0≤b∧b≤(sn.size:Int)) (h:1024*(j+1)<sn.size):Ph T Sd sn (2*j+1) (LD sn 0 1 b) (FP T Sd (sn.extract 0 (1024*(j+1)))) [TS (1024*(j+1))]
 |whole (j:Nat) (b:Int) (hb:0≤b∧b≤(sn.size:Int)) (h:1024*j<sn.size):Ph T Sd sn (2*j+1) (LD sn 0 1 b) (FI T Sd sn) [TA]
 |done (k:Nat):Ph T Sd sn k (LE sn) (FI T Sd sn) []
theorem Ph.lt {k:Nat} {l fo:Rf} {q:List Msg} (h:Ph T Sd sn k l fo q) (hs:sn.size≤100000) (hq:q≠[]):k<400:=by
 cases h with
 |ask0=>decide
 |ask j h=>omega
 |tell j b hb h=>omega
 |whole j b hb h=>omega
 |done k=>exact absurd rfl hq
theorem Ph.end_ {k:Nat} {l fo:Rf} (h:Ph T Sd sn k l fo []):l=LE sn∧fo=FI T Sd sn:=by
 cases h;exact ⟨rfl,rfl⟩
theorem Ph.len {k:Nat} {l fo:Rf} {q:List Msg} (h:Ph T Sd sn k l fo q):q.length≤1∧∀ m∈q,m.es=[]:=by
 cases h <;> exact ⟨by simp,fun m hm=>by simp at hm;try (subst hm;rfl)⟩
theorem Ph.fol {k:Nat} {l fo:Rf} {m:Msg} {q:List Msg} (h:Ph T Sd sn k l fo (m::q)) (hm:m.t=2) (hT:0≤T∧T≤1000) (hn:1024<sn.size) (hs:sn.size≤100000):q=[]∧m.k=5∧jo fo=true∧lQ fo m∧Ph T Sd sn (k+1) l (cp fo m).s (cp fo m).out∧jo (cp fo m).s=true∧lQ (cp fo m).s m∧(cp (cp fo m).s m).s=(cp fo m).s∧∀ y∈(cp (cp fo m).s m).out,y.es=[]:=by
 cases h with
 |ask0=>
  have e:cp (F0 T Sd) (AM sn 0)=⟨FP T Sd (sn.extract 0 (1024*(0+1))),[TS (1024*(0+1))]⟩:=by
   rw [vN,p0 (sn:=sn) (p:=⟨#[]⟩) (a:=0) yz rfl (by omega) (by omega)];show (⟨FP T Sd ((⟨#[]⟩:ByteArray)++sn.extract 0 1024),[TS 1024]⟩:Sp)=_;rw [show (⟨#[]⟩:ByteArray)++sn.extract 0 1024=sn.extract 0 1024 from ByteArray.empty_append]
  have hsz:(sn.extract 0 (1024*(0+1))).size=1024:=ib sn (by omega);rw [e];refine ⟨rfl,rfl,k8 hT (.inl rfl),jQ rfl rfl (by omega) (by omega),.tell 0 0 ⟨Int.le_refl _,by omega⟩ (by omega),k8 hT (.inr (.inl ⟨_,rfl,by omega⟩)),jQ rfl rfl (by omega) (by omega),?_⟩;rw [lY,mX (by omega)];exact ⟨rfl,fun y hy=>by rw [List.mem_singleton.1 hy];rfl⟩
 |ask j h=>
  have hsz:(sn.extract 0 (1024*(j+1))).size=1024*(j+1):=ib sn (by omega);by_cases hl:1024*(j+1)+1024<sn.size
  ·have e:cp (FP T Sd (sn.extract 0 (1024*(j+1)))) (AM sn (1024*(j+1)))=⟨FP T Sd (sn.extract 0 (1024*(j+1+1))),[TS (1024*(j+1+1))]⟩:=by
    rw [lY,p0 wT hsz hl (by omega),sG sn (by omega) (by omega)];rfl
   have hsz2:(sn.extract 0 (1024*(j+1+1))).size=1024*(j+1+1):=ib sn (by omega);rw [e];refine ⟨rfl,rfl,k8 hT (.inr (.inl ⟨_,rfl,by omega⟩)),jQ rfl rfl (by omega) (by omega),?_,k8 hT (.inr (.inl ⟨_,rfl,by omega⟩)),jQ rfl rfl (by omega) (by omega),?_⟩
   ·exact .tell (j+1) _ ⟨by omega,by omega⟩ (by omega)
   ·rw [lY,mX (by omega)];exact ⟨rfl,fun y hy=>by rw [List.mem_singleton.1 hy];rfl⟩
  ·have e:cp (FP T Sd (sn.extract 0 (1024*(j+1)))) (AM sn (1024*(j+1)))=⟨FI T Sd sn,[TA]⟩:=by
    rw [lY,tu wT hsz ⟨by omega,by omega⟩ (by omega),sG sn (by omega) (Nat.le_refl _),wz]
   rw [e];refine ⟨rfl,rfl,k8 hT (.inr (.inl ⟨_,rfl,by omega⟩)),jQ rfl rfl (by omega) (by omega),?_,k8 hT (.inr (.inr ⟨_,rfl,by omega⟩)),jQ rfl rfl (by omega) (by omega),?_⟩
   ·exact .whole (j+1) _ ⟨by omega,by omega⟩ (by omega)
   ·rw [vM];exact ⟨rfl,fun y hy=>by rw [List.mem_singleton.1 hy];rfl⟩
 |tell j b hb h=>cases hm
 |whole j b hb h=>cases hm
theorem Ph.led {k:Nat} {l fo:Rf} {m:Msg} {q:List Msg} (h:Ph T Sd sn k l fo (m::q)) (hm:m.t≠2) (hs:sn.size≤100000):q=[]∧(m.k=6∨m.k=4)∧jo l=true∧lQ l m∧Ph T Sd sn (k+1) (cp l m).s fo (cp l m).out:=by
 cases h with
 |ask0=>exact absurd rfl hm
 |ask j h=>exact absurd rfl hm
 |tell j b hb h=>
  rw [vK (by omega)];exact ⟨rfl,.inl rfl,oI (by omega) (by decide) (by decide) hb,wx (by omega),.ask j h⟩
 |whole j b hb h=>
  rw [vL];exact ⟨rfl,.inr rfl,oI (by omega) (by decide) (by decide) hb,wy,.done _⟩
end Go.Proofs.YtkpooenofjdpmaaGreat
namespace Go.Proofs.YtkpooenofjdpmaaGreat
open Go.Proofs.Tryz (prog)
open Go.RowKit
open Go.ChangeShapes Go.WideShapes Go.ChangeAt
theorem r8:aN prog 57=true:=by kernel_rfl
theorem r7:aN prog 58=true:=by kernel_rfl
theorem ml (s:Rf) (a:Ra) (m:Msg) (w:World) (hrd:jj w s a) (hl:s.votes.length≤1000000∧s.next.length≤1000000∧s.mtch.length≤1000000∧s.sent.length≤1000000∧s.reads.length≤1000000∧∀ q∈s.reads,q.acks.length≤1000000) (hel:s.es.length≤1000000) (he:Em w m) (hlm:m.es.length≤1000000) (hck:o6 m) (hm:jo s=true) (hf:lQ s m) (htk:∀ (w0:World) (Z:Nat→Prop) (g:Nat) (wv:World),aF w0 Z wv 96 g ⟨s,[]⟩→Em wv m→Ez Z m→Rt prog 58 [.pointer (some ⟨g,0,none⟩),.agg (bT m).toArray] wv fun v w'=>v=.tuple #[]∧aF w0 Z w' 96 g (cp s m)) :
 Rt prog 24 [.agg (rfV s a).toArray,.agg (bT m).toArray] w (fun v w'=>(∃ tag a' O oc L,v=.tuple #[.agg (rfV (cp s m).s a').toArray,.slice O (List.length L) oc,.int .i64 0]∧aY w' tag (cp s m).s a'∧fz w' tag (cp s m).out O oc L∧∀ k,k<w.heap.size→tag k=8)∧ai w w'):=by
 refine enter (n:=35) Tryz.func24 rfl rfl rfl (ao (ag (cj (v:=.agg _) rfl ?_)));intro b2 w1 E2 hb2 hk2;refine cj (v:=.agg _) rfl ?_;intro b3 w2 E3 hb3 hk3;replace hk2:=hk2.from_ E3;refine dq gh ?_;intro b4 w3 E4 hb4 hk4;have hg4:w.heap.size≤b4:=by rw [hb4];exact (((ai.rfl_.next E2).next E3)).size
 replace hk2:=hk2.from_ E4;replace hk3:=hk3.from_ E4;refine ass rfl (asi rfl (aq (ah (ao (ag (ab (aR (cs:=rfV s a) bR bf rfl ((hk2.from_ ai.rfl_).whole)) ?_))))));have hB9:ai w w3:=(((ai.rfl_.next E2).next E3).next E4);have hk2b:=hk2.from_ ai.rfl_;have hk3b:=hk3.from_ ai.rfl_;have hk4b:=hk4.from_ ai.rfl_;have hlt2:=hk2b.lt;have hlt3:=hk3b.lt;have hlt4:=hk4b.lt;obtain ⟨wb,hw9⟩:∃ x,x=w3:=⟨_,rfl⟩;obtain ⟨Z,hZ⟩:∃ Z:Nat→Prop,Z=fun k=>k<wb.heap.size:=⟨_,rfl⟩
 refine aE od (p6 s a _ (hrd.from_ (((ai.rfl_.next E2).next E3).next E4)) hl hel hm) ?_;rintro v11 w4 ⟨g,rfl,h9⟩;rw [←hw9] at hB9 hk2b hk3b hk4b hlt2 hlt3 hlt4;rw [←hw9,←hZ] at h9;have stB:∀ {w':World} {p:Sp},aF wb Z w' 96 g p→ai w w':=fun h=>hB9.next (kP (by rw [hZ] at h;exact h))
 have hz2:Z b2:=by rw [hZ];exact hlt2
 have hz3:Z b3:=by rw [hZ];exact hlt3
 have hz4:Z b4:=by rw [hZ];exact hlt4
 have hzw:∀ k,k<w.heap.size→Z k:=fun k hk=>by rw [hZ];exact Nat.lt_of_lt_of_le hk hB9.size
 refine mvt rfl (ab (aK rfl rfl) (ab (aK rfl rfl) (asp rfl (asi rfl (aq (ah (ao (ao (ag (mvi rfl (ab (bL (cz rfl rfl) rfl) (mvb rfl ?_))))))))))));refine aj rfl (ab (aR (cs:=rfV s a) bR bf rfl (((h9.kept hz2 hk2b).from_ ai.rfl_).whole)) (aj rfl (ab (aR (cs:=bT m) bp bg rfl (((h9.kept hz3 hk3b).from_ ai.rfl_).whole)) (aj rfl (aE r8 (rZ s a m _ (he.from_ (stB h9)) hlm hck (decide_eq_true hf)) ?_)))));rintro v19 w5 ⟨rfl,E19⟩;refine aj rfl (ab (bL (cE rfl) rfl) (ab (aB (v:=.bool _) rfl rfl) (aq (ah (aU rfl (aI (ah (ao (ag (mvp rfl (ab (aR (cs:=bT m) bp bg rfl (((h9.kept hz3 hk3b).from_ (ai.rfl_.next E19)).whole)) (aE r7 (htk wb Z g _ (h9.from_ (ai.rfl_.next E19)) (he.from_ ((stB h9).next E19)) (he.ez hzw)) ?_))))))))))));rintro v25 w6 ⟨rfl,h12⟩;have hT:aF wb Z w6 96 g (cp s m):=h12;obtain ⟨tgX,aX,OX,ocX,LX,hsX⟩:=hT.ex;have hBq:ai w w6:=stB hT;have hk4d:=hT.kept hz4 hk4b;have hn4:g≠b4:=fun e=>by have h1:=hsX.z b4 hz4;rw [←e,hsX.gc] at h1;cases h1
 refine aq (ah (ao ?_));have hU7:kg [(0,26,.pointer (some ⟨g,0,none⟩)),(1,27,.pointer (some ⟨g,0,none⟩)),(2,28,.pointer (some ⟨g,0+0,none⟩)),(3,29,.pointer (some ⟨g,0+0+0,none⟩)),(4,30,.agg (rfV (cp s m).s aX).toArray),(5,31,.pointer (some ⟨g,0,none⟩)),(6,32,.pointer (some ⟨g,0,none⟩)),(7,33,.pointer (some ⟨g,0+22,none⟩)),(8,34,.slice OX LX.length ocX),(10,5,.slice OX LX.length ocX),(11,6,.int .i64 0)]:=by simp [kg]
 refine l_ [(0,26,.pointer (some ⟨g,0,none⟩)),(1,27,.pointer (some ⟨g,0,none⟩)),(2,28,.pointer (some ⟨g,0+0,none⟩)),(3,29,.pointer (some ⟨g,0+0+0,none⟩)),(4,30,.agg (rfV (cp s m).s aX).toArray),(5,31,.pointer (some ⟨g,0,none⟩)),(6,32,.pointer (some ⟨g,0,none⟩)),(7,33,.pointer (some ⟨g,0+22,none⟩)),(8,34,.slice OX LX.length ocX),(10,5,.slice OX LX.length ocX),(11,6,.int .i64 0)] (fun S w'=>Blk w' g 96 ((rfV (cp s m).s aX)++[Value.slice OX LX.length ocX]).toArray∧(∃ cs:Array Value,cs.size=22∧Blk w' b4 29 cs∧(S 9=true→cs=(rfV (cp s m).s aX).toArray))∧Chg (fun k=>k=b4) w6 w') (by kernel_rfl) (by kernel_rfl) hU7 (by simp) (⟨(hsX.b.from_ ai.rfl_).from_ ai.rfl_.d1,⟨_,rfl,(hk4d.from_ ai.rfl_).from_ ai.rfl_.d1,fun h=>(by cases h)⟩,ai.rfl_.d1.toChg⟩) ?_ ?_
 ·constructor
  ·rintro S L' wS hI hM hS0 ⟨-⟩;have e7:=hI.1 7 (by simp);have hM':=hM;obtain ⟨hgB,⟨cs9,hs9z,hq9,hqe⟩,hC9⟩:=hM';exact bu (aC e7) ⟨hI.put hU7 (.head _),hM⟩
  constructor
  ·rintro S L' wS hI hM hS0 ⟨d0,-⟩;have e26:bc L' 26=.pointer (some ⟨g,0,none⟩):=hI.get (i:=0) (.head _) d0;have hM':=hM;obtain ⟨hgB,⟨cs9,hs9z,hq9,hqe⟩,hC9⟩:=hM';exact bu (av e26) ⟨hI.put hU7 (.tail _ (.head _)),hM⟩
  constructor
  ·rintro S L' wS hI hM hS0 ⟨d1,-⟩;have e27:bc L' 27=.pointer (some ⟨g,0,none⟩):=hI.get (i:=1) (.tail _ (.head _)) d1;have hM':=hM;obtain ⟨hgB,⟨cs9,hs9z,hq9,hqe⟩,hC9⟩:=hM';exact bu (aa ay e27) ⟨hI.put hU7 (gM 2 rfl),hM⟩
  constructor
  ·rintro S L' wS hI hM hS0 ⟨d2,-⟩;have e28:bc L' 28=.pointer (some ⟨g,0+0,none⟩):=hI.get (i:=2) (gM 2 rfl) d2;have hM':=hM;obtain ⟨hgB,⟨cs9,hs9z,hq9,hqe⟩,hC9⟩:=hM';exact bu (aa aw e28) ⟨hI.put hU7 (gM 3 rfl),hM⟩
  constructor
  ·rintro S L' wS hI hM hS0 ⟨d3,-⟩;have e29:bc L' 29=.pointer (some ⟨g,0+0+0,none⟩):=hI.get (i:=3) (gM 3 rfl) d3;have hM':=hM;obtain ⟨hgB,⟨cs9,hs9z,hq9,hqe⟩,hC9⟩:=hM';exact bu (aR (cs:=(rfV (cp s m).s aX)) bR bf e29 (rr hgB)) ⟨hI.put hU7 (gM 4 rfl),hM⟩
  constructor
  ·rintro S L' wS hI hM hS0 ⟨-,-⟩;have e7:=hI.1 7 (by simp);have hM':=hM;obtain ⟨hgB,⟨cs9,hs9z,hq9,hqe⟩,hC9⟩:=hM';exact bu (aC e7) ⟨hI.put hU7 (gM 5 rfl),hM⟩
  constructor
  ·rintro S L' wS hI hM hS0 ⟨d5,-,-⟩;have e31:bc L' 31=.pointer (some ⟨g,0,none⟩):=hI.get (i:=5) (gM 5 rfl) d5;have hM':=hM;obtain ⟨hgB,⟨cs9,hs9z,hq9,hqe⟩,hC9⟩:=hM';exact bu (av e31) ⟨hI.put hU7 (gM 6 rfl),hM⟩
  constructor
  ·rintro S L' wS hI hM hS0 ⟨d6,-,-⟩;have e32:bc L' 32=.pointer (some ⟨g,0,none⟩):=hI.get (i:=6) (gM 6 rfl) d6;have hM':=hM;obtain ⟨hgB,⟨cs9,hs9z,hq9,hqe⟩,hC9⟩:=hM';exact bu (aa gL e32) ⟨hI.put hU7 (gM 7 rfl),hM⟩
  constructor
  ·rintro S L' wS hI hM hS0 ⟨d7,-,-⟩;have e33:bc L' 33=.pointer (some ⟨g,0+22,none⟩):=hI.get (i:=7) (gM 7 rfl) d7;have hM':=hM;obtain ⟨hgB,⟨cs9,hs9z,hq9,hqe⟩,hC9⟩:=hM';exact bu (au ki e33 (by exact (show _=some (Value.slice OX LX.length ocX) from hgB.rd 22 rfl))) ⟨hI.put hU7 (gM 8 rfl),hM⟩
  constructor
  ·rintro S L' wS hI hM hS0 ⟨d4,d0,d1,d2,d3,d4,-,-,-,-,-⟩;have e4:=hI.1 4 (by simp);have e30:bc L' 30=.agg (rfV (cp s m).s aX).toArray:=hI.get (i:=4) (gM 4 rfl) d4;have hM':=hM;obtain ⟨hgB,⟨cs9,hs9z,hq9,hqe⟩,hC9⟩:=hM';obtain ⟨w2,hR,hO,hb⟩:=sq (n:=35) (L:=L') (x:=.tmp 4) (y:=.tmp 30) (vs:=(rfV (cp s m).s aX)) bf e4 e30 (by simp [rfV,Value.oneCell']) hq9 (by rw [hs9z];rfl);exact iy hR ⟨hI.skip (by simp),hgB.only hO hn4,⟨_,rfl,hb,fun _=>rfl⟩,hC9.next (hO.toChg rfl)⟩
  constructor
  ·rintro S L' wS hI hM hS0 ⟨d8,d9,d0,d1,d2,d3,d4,d5,d6,d7,d8,d9,-⟩;have e34:bc L' 34=.slice OX LX.length ocX:=hI.get (i:=8) (gM 8 rfl) d8;have hM':=hM;obtain ⟨hgB,⟨cs9,hs9z,hq9,hqe⟩,hC9⟩:=hM';exact bu (cS e34) ⟨hI.put hU7 (gM 9 rfl),hM⟩
  constructor
  ·rintro S L' wS hI hM hS0 ⟨d10,d0,d1,d2,d3,d4,d5,d6,d7,d8,d9,d10,-⟩;have hM':=hM;obtain ⟨hgB,⟨cs9,hs9z,hq9,hqe⟩,hC9⟩:=hM';exact bu (cS rfl) ⟨hI.put hU7 (gM 10 rfl),hM⟩
  exact trivial
 ·intro w8 hM;obtain ⟨hgB,⟨cs9,hs9z,hq9,hqe⟩,hC9⟩:=hM;have hqe:=hqe rfl;subst hqe;refine ah (aG (wR rfl (eP (cs:=[_,_,_,_,_,_,_,_,_,_,_,_,_,_,_,_,_,_,_,_,_,_]) bR bf rfl (by exact hq9.whole)) (iI (v:=.slice _ _ _) rfl) (iI (v:=.int _ _) rfl) ?_));exact ⟨⟨tgX,aX,OX,ocX,LX,rfl,vr.mk_ hsX hzw (hC9.wide (fun k hk=>.inl (by rw [show k=b4 from hk];exact hz4)))⟩,(hBq.chg hC9 (fun k hk=>by rw [show k=b4 from hk];exact hg4))⟩
theorem ji:jq prog 39=some (.agg #[.int .i64 0,.int .i64 0,.int .i64 0,.int .i64 0,.int .i64 0,.int .i64 0,.int .i64 0,.int .i64 0,.bool false,.slice none 0 0,.int .i64 0,.string ⟨#[]⟩,.bool false]):=by kernel_rfl
theorem jE:aN prog 141=true:=by kernel_rfl
theorem jF:aN prog 140=true:=by kernel_rfl
theorem jD:aN prog 142=true:=by kernel_rfl
theorem jC:aN prog 143=true:=by kernel_rfl
theorem qX (k f t tm ix lt cm rd:Int) (ok:Bool) (E:Option Addr) (n c:Nat) (a:Int) (d:ByteArray) (dn:Bool) (w:World) (hk:k=4) :
 Rt prog 141 [.agg #[.int .i64 k,.int .i64 f,.int .i64 t,.int .i64 tm,.int .i64 ix,.int .i64 lt,.int .i64 cm,.int .i64 rd,.bool ok,.slice E n c,.int .i64 a,.string d,.bool dn]] w (fun v w'=>(∃ ix' lt' cm' rd' ok' E' n' c' a' d' dn',v=.agg #[.int .i64 k,.int .i64 f,.int .i64 t,.int .i64 tm,.int .i64 ix',.int .i64 lt',.int .i64 cm',.int .i64 rd',.bool ok',.slice E' n' c',.int .i64 a',.string d',.bool dn']∧((ix'=0∧lt'=0∧cm'=0∧rd'=0∧a'=0∧ok'.toNat=0∧dn'.toNat=0∧d'.size=0∧n'=0)↔ExR k ix lt cm rd ok n a d dn))∧ai w w'):=by
 refine enter (n:=38) Tryz.func141 rfl rfl rfl (ao (ag (cj (v:=.agg _) rfl ?_)));intro b1 w1 E1 hb1 hk1;have hg1:w.heap.size≤b1:=by rw [hb1];exact Nat.le_refl _
 refine dq ji ?_;intro b2 w2 E2 hb2 hk2;have hlt:=hk1.lt;have hg2:w.heap.size≤b2:=by rw [hb2];exact ((ai.rfl_.next E1)).size
 have h12:b1<b2:=by omega
 replace hk1:=hk1.from_ E2;refine aq (ah (ao (ao (ag (ab (aa bJ rfl) (ab (au ak rfl (by exact hk1.rd 0 rfl)) ?_))))));refine aq (ah (bk (ao (ag (ab (bo rfl rfl) (asb rfl (aq (ah (yR rfl (fun Q3=>?_) (fun Q3=>?_))))))))))
 ·exfalso;omega
 refine ao (ag (ab (bo rfl rfl) (asb rfl (aq (ah (yR rfl (fun Q7=>?_) (fun Q7=>?_)))))))
 ·exfalso;omega
 refine ao (ag (ab (bo rfl rfl) (asb rfl (aq (ah (yR rfl (fun Q10=>?_) (fun Q10=>?_)))))))
 ·exfalso;omega
 refine ao (ag (ab (bo rfl rfl) (asb rfl (aq (ah (yR rfl (fun Q17=>?_) (fun Q17=>?_)))))));rotate_left
 ·exfalso;omega
 refine ag (ab (aa gz rfl) (fv (v:=.bool _) nm rfl rfl rfl (hk1) (by show 0+8<13;decide) ?_));intro w32 O9_0 P9_0;replace hk2:=hk2.only O9_0 (by omega);replace hk1:Blk w32 b1 39 #[.int .i64 k,.int .i64 f,.int .i64 t,.int .i64 tm,.int .i64 ix,.int .i64 lt,.int .i64 cm,.int .i64 rd,.bool false,.slice E n c,.int .i64 a,.string d,.bool dn]:=P9_0;refine ab (aa bW rfl) (fv (v:=.int _ _) bh rfl rfl rfl (hk1) (by show 0+4<13;decide) ?_);intro w33 O9_1 P9_1;replace hk2:=hk2.only O9_1 (by omega);replace hk1:Blk w33 b1 39 #[.int .i64 k,.int .i64 f,.int .i64 t,.int .i64 tm,.int .i64 0,.int .i64 lt,.int .i64 cm,.int .i64 rd,.bool false,.slice E n c,.int .i64 a,.string d,.bool dn]:=P9_1;refine ab (aa dg rfl) (fv (v:=.int _ _) bh rfl rfl rfl (hk1) (by show 0+7<13;decide) ?_);intro w34 O9_2 P9_2;replace hk2:=hk2.only O9_2 (by omega);replace hk1:Blk w34 b1 39 #[.int .i64 k,.int .i64 f,.int .i64 t,.int .i64 tm,.int .i64 0,.int .i64 lt,.int .i64 cm,.int .i64 0,.bool false,.slice E n c,.int .i64 a,.string d,.bool dn]:=P9_2;refine aq (bI (ah (ao (ag (ab (aR (cs:=[_,_,_,_,_,_,_,_,_,_,_,_,_]) bp bg rfl (by exact hk1.whole)) ?_)))));refine cZ (vs:=[_,_,_,_,_,_,_,_,_,_,_,_,_]) bg rfl rfl (by simp [Value.oneCell']) (hk2) rfl ?_;intro w35 O14 P14;refine aq (ah (aG (sw rfl (eP (cs:=[_,_,_,_,_,_,_,_,_,_,_,_,_]) bp bg rfl (by exact P14.whole)) ?_)));refine ⟨⟨_,_,_,_,_,_,_,_,_,_,_,rfl,?_⟩,((((((ai.rfl_.next E1).next E2).only O9_0 (hg1)).only O9_1 (hg1)).only O9_2 (hg1)).only O14 (hg2))⟩;unfold ExR
 first
  |(rw [if_pos (by omega)];(try simp only [Bool.toNat_false,bz,true_and,and_true]);first | done | omega)
  |(rw [if_neg (by omega),if_pos (by omega)];(try simp only [Bool.toNat_false,bz,true_and,and_true]);first | done | omega)
  |(rw [if_neg (by omega),if_neg (by omega),if_pos (by omega)];(try simp only [Bool.toNat_false,bz,true_and,and_true]);first | done | omega)
  |(rw [if_neg (by omega),if_neg (by omega),if_neg (by omega),if_pos (by omega)];(try simp only [Bool.toNat_false,true_and]);first | done | omega)
  |(rw [if_neg (by omega),if_neg (by omega),if_neg (by omega),if_neg (by omega),if_pos (by omega)];(try simp only [Bool.toNat_false,bz,true_and,and_true]);first | done | omega)
  |(rw [if_neg (by omega),if_neg (by omega),if_neg (by omega),if_neg (by omega),if_neg (by omega),if_pos (by omega)];(try simp only [Bool.toNat_false,bz,true_and,and_true]);first | done | omega)
  |(rw [if_neg (by omega),if_neg (by omega),if_neg (by omega),if_neg (by omega),if_neg (by omega),if_neg (by omega)];omega)
theorem mg (k f t tm ix lt cm rd:Int) (ok:Bool) (E:Option Addr) (n c:Nat) (a:Int) (d:ByteArray) (dn:Bool) (w:World) (hk:k=4) (es:List Ent) (hn:n=es.length) (he:cQ w (.slice E n c) es) (_:es.length≤400000000000) (_:0≤ix∧ix≤1099511627775) (_:0≤lt∧lt≤1099511627775) :
 Rt prog 142 [.agg #[.int .i64 k,.int .i64 f,.int .i64 t,.int .i64 tm,.int .i64 ix,.int .i64 lt,.int .i64 cm,.int .i64 rd,.bool ok,.slice E n c,.int .i64 a,.string d,.bool dn]] w (fun v w'=>v=.bool (decide (si k ix lt es))∧ai w w'):=by
 subst hn;refine enter (n:=29) Tryz.func142 rfl rfl rfl (ao (ag (cj (v:=.agg _) rfl ?_)));intro b1 w1 E1 hb1 hk1;refine asb rfl (aq (ah (ao (ao (ag (ab (aa bJ rfl) (ab (au ak rfl (by exact (hk1.from_ ai.rfl_).rd 0 rfl)) ?_)))))));refine ab (cz rfl rfl) (aq (ah (aO rfl (fun Q2=>?_) (fun Q2=>?_))));rotate_left
 ·replace Q2:=eu Q2;replace Q2:=d_ Q2;exfalso;omega
 replace Q2:=et Q2;replace Q2:=ea Q2;refine ao (ag (asb rfl (aq (ah (aG (aH (bF (v:=.bool _) rfl rfl (⟨congrArg Value.bool (decide_eq_true ?_).symm,(ai.rfl_.next E1)⟩))))))));intro h;omega
theorem ov (k f t tm ix lt cm rd:Int) (ok:Bool) (E:Option Addr) (n c:Nat) (a:Int) (d:ByteArray) (dn:Bool) (w:World) (hk:k=4) :
 Rt prog 143 [.agg #[.int .i64 k,.int .i64 f,.int .i64 t,.int .i64 tm,.int .i64 ix,.int .i64 lt,.int .i64 cm,.int .i64 rd,.bool ok,.slice E n c,.int .i64 a,.string d,.bool dn]] w (fun v w'=>v=.bool (decide (ir k ix a d))∧ai w w'):=by
 refine enter (n:=23) Tryz.func143 rfl rfl rfl (ao (ag (cj (v:=.agg _) rfl ?_)));intro b1 w1 E1 hb1 hk1;refine asb rfl (aq (ah (ao (ag (ab (aa bJ rfl) (ab (au ak rfl (by exact (hk1.from_ ai.rfl_).rd 0 rfl)) ?_))))));refine ab (cz rfl rfl) (mvb rfl (aM (t:=6) rfl (fun Q2=>?_) (fun Q2=>?_)));rotate_left
 ·replace Q2:=eu Q2;replace Q2:=d_ Q2;exfalso;omega
 replace Q2:=et Q2;replace Q2:=ea Q2;refine ar rfl rfl (ar rfl rfl (ar rfl rfl (ar rfl rfl (ar rfl rfl (bU rfl (bU rfl (bU rfl (ar rfl rfl ?_))))))));refine ar rfl rfl (bU rfl (bU rfl (bU rfl (bU rfl (ar rfl rfl (ab (aJ (v:=.bool _) rfl rfl) (asb rfl (aq (ah (aG ?_))))))))));refine bF (v:=.bool _) rfl rfl (⟨congrArg Value.bool ?_,(ai.rfl_.next E1)⟩)
 first
  |(rw [eq_comm,decide_eq_false_iff_not];unfold ir;omega)
  |(rw [decide_eq_decide];unfold ir;omega)
  |(rw [eq_comm,decide_eq_true_eq];unfold ir;omega)
theorem va (k f t tm ix lt cm rd:Int) (ok:Bool) (E:Option Addr) (n c:Nat) (a:Int) (d:ByteArray) (dn:Bool) (w:World) (hk:k=4) (es:List Ent) (hn:n=es.length) (he:cQ w (.slice E n c) es) (hl:es.length≤400000000000) :
 Rt prog 98 [.agg #[.int .i64 k,.int .i64 f,.int .i64 t,.int .i64 tm,.int .i64 ix,.int .i64 lt,.int .i64 cm,.int .i64 rd,.bool ok,.slice E n c,.int .i64 a,.string d,.bool dn]] w (fun v w'=>v=.int .i64 (if OkR k f t tm ix lt cm rd ok es a d dn then 0 else 1)∧ai w w'):=by
 refine enter (n:=47) Tryz.func98 rfl rfl rfl (ao (ag (cj (v:=.agg _) rfl ?_)));intro b1 w1 E1 hb1 hk1;refine asi rfl (aq (ah (ao (ag (ab (aa bJ rfl) (ab (au ak rfl (by exact (hk1.from_ ai.rfl_).rd 0 rfl)) ?_))))));refine ej (v:=.int _ _) aS rfl rfl rfl ?_;intro b6 w2 E6 hb6 hk6;refine aE ei (fe 1 6 b6 1 1 [k] _ rfl hk6 (by simp)) ?_;rintro v7 w3 ⟨rfl,rfl⟩;refine mvb rfl (ym (t:=8) rfl (fun Q4=>?_) (fun Q4=>?_))
 ·simp only [aL,aP,and_true] at Q4;have h8:=Q4;refine aj rfl (ab (aa bx rfl) (aj rfl (ab (au ak rfl (by exact (hk1.from_ (ai.rfl_.next E6)).rd 1 rfl)) ?_)));refine aj rfl (ab (aa ft rfl) (aj rfl (ab (au ak rfl (by exact (hk1.from_ (ai.rfl_.next E6)).rd 2 rfl)) ?_)));refine aj rfl (fA [.tmp 10,.tmp 12] [.int _ _,.int _ _] aS rfl rfl rfl rfl (by simp [Value.cells]) ?_);intro b13 w5 E13 hb13 hk13;refine aj rfl (aE ei (fe 1 7 b13 2 2 [f,t] _ rfl hk13 (by simp)) ?_);rintro v14 w6 ⟨rfl,rfl⟩;refine ab (aJ (v:=.bool _) rfl rfl) (mvb rfl (ym (t:=16) rfl (fun Q7=>?_) (fun Q7=>?_)))
  ·simp only [aL,aP,and_true] at Q7;have h16:=Q7;refine aj rfl (ab (aa bG rfl) (aj rfl (ab (au ak rfl (by exact (hk1.from_ ((ai.rfl_.next E6).next E13)).rd 3 rfl)) ?_)));refine aj rfl (ab (aa bW rfl) (aj rfl (ab (au ak rfl (by exact (hk1.from_ ((ai.rfl_.next E6).next E13)).rd 4 rfl)) ?_)));refine aj rfl (ab (aa ee rfl) (aj rfl (ab (au ak rfl (by exact (hk1.from_ ((ai.rfl_.next E6).next E13)).rd 5 rfl)) ?_)));refine aj rfl (ab (aa iG rfl) (aj rfl (ab (au ak rfl (by exact (hk1.from_ ((ai.rfl_.next E6).next E13)).rd 6 rfl)) ?_)));refine aj rfl (ab (aa dg rfl) (aj rfl (ab (au ak rfl (by exact (hk1.from_ ((ai.rfl_.next E6).next E13)).rd 7 rfl)) ?_)));refine aj rfl (ab (aa dd rfl) (aj rfl (ab (au ak rfl (by exact (hk1.from_ ((ai.rfl_.next E6).next E13)).rd 10 rfl)) ?_)));refine aj rfl (fA [.tmp 18,.tmp 20,.tmp 22,.tmp 24,.tmp 26,.tmp 28] [.int _ _,.int _ _,.int _ _,.int _ _,.int _ _,.int _ _] aS rfl rfl rfl rfl (by simp [Value.cells]) ?_);intro b29 w8 E29 hb29 hk29;refine aj rfl (aE ei (fe 0 1099511627775 b29 6 6 [tm,ix,lt,cm,rd,a] _ rfl hk29 (by simp)) ?_);rintro v30 w9 ⟨rfl,rfl⟩;refine ab (aJ (v:=.bool _) rfl rfl) (mvb rfl (ym (t:=32) rfl (fun Q10=>?_) (fun Q10=>?_)))
   ·simp only [aL,aP,and_true] at Q10;have h32:=Q10;refine aj rfl (ab (aR (cs:=[_,_,_,_,_,_,_,_,_,_,_,_,_]) bp bg rfl (by exact (hk1.from_ (((ai.rfl_.next E6).next E13).next E29)).whole)) ?_);refine aj rfl (aE jE (qX k f t tm ix lt cm rd ok E n c a d dn _ hk) ?_);rintro v34 w11 ⟨⟨ix',lt',cm',rd',ok',E',n',c',a',d',dn',rfl,hex⟩,E34⟩;refine aj rfl (aE jF (oN k f t tm ix' lt' cm' rd' ok' E' n' c' a' d' dn' _) ?_);rintro v35 w12 ⟨rfl,E35⟩;refine ab (aJ (v:=.bool _) rfl rfl) (mvb rfl (ym (t:=37) rfl (fun Q13=>?_) (fun Q13=>?_)))
    ·have hx:=hex.1 Q13;have h37:=Q13;refine aj rfl (ab (aR (cs:=[_,_,_,_,_,_,_,_,_,_,_,_,_]) bp bg rfl (by exact (hk1.from_ (((((ai.rfl_.next E6).next E13).next E29).next E34).next E35)).whole)) ?_);refine aj rfl (aE jD (mg k f t tm ix lt cm rd ok E n c a d dn _ hk es hn (he.from_ ((((((ai.rfl_.next E1).next E6).next E13).next E29).next E34).next E35)) hl (by omega) (by omega)) ?_);rintro v39 w14 ⟨rfl,E39⟩;refine ab (aJ (v:=.bool _) rfl rfl) (mvb rfl (ym (t:=41) rfl (fun Q15=>?_) (fun Q15=>?_)))
     ·have h41:=Q15;refine aj rfl (ab (aR (cs:=[_,_,_,_,_,_,_,_,_,_,_,_,_]) bp bg rfl (by exact (hk1.from_ ((((((ai.rfl_.next E6).next E13).next E29).next E34).next E35).next E39)).whole)) ?_);refine aj rfl (aE jC (ov k f t tm ix lt cm rd ok E n c a d dn _ hk) ?_);rintro v43 w16 ⟨rfl,E43⟩;refine ab (aJ (v:=.bool _) rfl rfl) (asb rfl (aq (ah (ao (ao (ag (mvb rfl (ab (cE rfl) (aq (ah (aO rfl (fun Q17=>?_) (fun Q17=>?_))))))))))))
      ·replace Q17:=et Q17;replace Q17:=dF_ Q17;have hno:¬ (OkR k f t tm ix lt cm rd ok es a d dn):=fun h=>Q17 h.2.2.2
       refine ao (ag (asi rfl (aq (ah (aG (aH (bF (v:=.int _ _) rfl rfl (⟨aZ (by rw [if_neg hno]),((((((((ai.rfl_.next E1).next E6).next E13).next E29).next E34).next E35).next E39).next E43)⟩))))))))
      replace Q17:=eu Q17;replace Q17:=dT_ Q17;have hyes:OkR k f t tm ix lt cm rd ok es a d dn:=⟨by unfold jk;omega,hn ▸ hx,h41,Q17⟩;refine aI (ah (ao (ag (asi rfl (aq (ah (aG (bF (v:=.int _ _) rfl rfl (⟨aZ (by rw [if_pos hyes]),((((((((ai.rfl_.next E1).next E6).next E13).next E29).next E34).next E35).next E39).next E43)⟩)))))))))
     have hno:¬ (OkR k f t tm ix lt cm rd ok es a d dn):=fun h=>Q15 h.2.2.1
     refine ar rfl rfl (ar rfl rfl (ab (aB (v:=.bool _) rfl rfl) (asb rfl (aq (ah (ao (ao (ag (mvb rfl (ab (cE rfl) (aq (ah (aW rfl ?_)))))))))))));refine ao (ag (asi rfl (aq (ah (aG (aH (bF (v:=.int _ _) rfl rfl (⟨aZ (by rw [if_neg hno]),(((((((ai.rfl_.next E1).next E6).next E13).next E29).next E34).next E35).next E39)⟩))))))))
    have hno:¬ (OkR k f t tm ix lt cm rd ok es a d dn):=fun h=>Q13 (hex.2 (hn ▸ h.2.1))
    refine ar rfl rfl (ar rfl rfl (ab (aB (v:=.bool _) rfl rfl) (mvb rfl (ar rfl rfl (ar rfl rfl (ab (aB (v:=.bool _) rfl rfl) (asb rfl (aq (ah (ao (ao (ag ?_))))))))))));refine mvb rfl (ab (cE rfl) (aq (ah (aW rfl (ao (ag (asi rfl (aq (ah (aG (aH (bF (v:=.int _ _) rfl rfl (⟨aZ (by rw [if_neg hno]),((((((ai.rfl_.next E1).next E6).next E13).next E29).next E34).next E35)⟩)))))))))))))
   simp only [aL,aP,and_true] at Q10;have hno:¬ (OkR k f t tm ix lt cm rd ok es a d dn):=fun h=>Q10 (by have:=h.1;unfold jk at this;omega)
   refine ar rfl rfl (ar rfl rfl (ar rfl rfl (ab (aB (v:=.bool _) rfl rfl) (mvb rfl (ar rfl rfl (ar rfl rfl (ab (aB (v:=.bool _) rfl rfl) (mvb rfl ?_))))))));refine ar rfl rfl (ar rfl rfl (ab (aB (v:=.bool _) rfl rfl) (asb rfl (aq (ah (ao (ao (ag (mvb rfl (ab (cE rfl) (aq (ah (aW rfl ?_)))))))))))));refine ao (ag (asi rfl (aq (ah (aG (aH (bF (v:=.int _ _) rfl rfl (⟨aZ (by rw [if_neg hno]),((((ai.rfl_.next E1).next E6).next E13).next E29)⟩))))))))
  simp only [aL,aP,and_true] at Q7;have hno:¬ (OkR k f t tm ix lt cm rd ok es a d dn):=fun h=>Q7 (by have:=h.1;unfold jk at this;omega)
  refine ar rfl rfl (ar rfl rfl (ar rfl rfl (ar rfl rfl (ar rfl rfl (ar rfl rfl (ar rfl rfl (ar rfl rfl (ar rfl rfl ?_))))))));refine ar rfl rfl (ar rfl rfl (ar rfl rfl (ar rfl rfl (ar rfl rfl (ab (aB (v:=.bool _) rfl rfl) (mvb rfl (ar rfl rfl (ar rfl rfl ?_))))))));refine ar rfl rfl (ab (aB (v:=.bool _) rfl rfl) (mvb rfl (ar rfl rfl (ar rfl rfl (ab (aB (v:=.bool _) rfl rfl) (mvb rfl (ar rfl rfl (ar rfl rfl ?_))))))));refine ab (aB (v:=.bool _) rfl rfl) (asb rfl (aq (ah (ao (ao (ag (mvb rfl (ab (cE rfl) (aq (ah (aW rfl (ao (ag (asi rfl ?_))))))))))))));refine aq (ah (aG (aH (bF (v:=.int _ _) rfl rfl (⟨aZ (by rw [if_neg hno]),(((ai.rfl_.next E1).next E6).next E13)⟩)))))
 simp only [aL,aP,and_true] at Q4;have hno:¬ (OkR k f t tm ix lt cm rd ok es a d dn):=fun h=>Q4 (by have:=h.1;unfold jk at this;omega)
 refine ar rfl rfl (ar rfl rfl (ar rfl rfl (ar rfl rfl (ar rfl rfl (ar rfl rfl (ab (aB (v:=.bool _) rfl rfl) (mvb rfl (ar rfl rfl ?_))))))));refine ar rfl rfl (ar rfl rfl (ar rfl rfl (ar rfl rfl (ar rfl rfl (ar rfl rfl (ar rfl rfl (ar rfl rfl (ar rfl rfl ?_))))))));refine ar rfl rfl (ar rfl rfl (ar rfl rfl (ar rfl rfl (ab (aB (v:=.bool _) rfl rfl) (mvb rfl (ar rfl rfl (ar rfl rfl (ar rfl rfl ?_))))))));refine ab (aB (v:=.bool _) rfl rfl) (mvb rfl (ar rfl rfl (ar rfl rfl (ab (aB (v:=.bool _) rfl rfl) (mvb rfl (ar rfl rfl (ar rfl rfl (ab (aB (v:=.bool _) rfl rfl) ?_))))))));refine asb rfl (aq (ah (ao (ao (ag (mvb rfl (ab (cE rfl) (aq (ah (aW rfl (ao (ag (asi rfl (aq (ah (aG (aH ?_)))))))))))))))));refine bF (v:=.int _ _) rfl rfl (⟨aZ (by rw [if_neg hno]),((ai.rfl_.next E1).next E6)⟩)
theorem ve {m:Msg} (hl:m.es.length≤1000000) (hk:m.k=4):o6 m:=fun w he=>va m.k m.f m.t m.tm m.ix m.lt m.cm m.rd m.ok m.E m.es.length m.c m.a m.d m.dn w hk m.es rfl he (by omega)
theorem qW (k f t tm ix lt cm rd:Int) (ok:Bool) (E:Option Addr) (n c:Nat) (a:Int) (d:ByteArray) (dn:Bool) (w:World) (hk:k=5) :
 Rt prog 141 [.agg #[.int .i64 k,.int .i64 f,.int .i64 t,.int .i64 tm,.int .i64 ix,.int .i64 lt,.int .i64 cm,.int .i64 rd,.bool ok,.slice E n c,.int .i64 a,.string d,.bool dn]] w (fun v w'=>(∃ ix' lt' cm' rd' ok' E' n' c' a' d' dn',v=.agg #[.int .i64 k,.int .i64 f,.int .i64 t,.int .i64 tm,.int .i64 ix',.int .i64 lt',.int .i64 cm',.int .i64 rd',.bool ok',.slice E' n' c',.int .i64 a',.string d',.bool dn']∧((ix'=0∧lt'=0∧cm'=0∧rd'=0∧a'=0∧ok'.toNat=0∧dn'.toNat=0∧d'.size=0∧n'=0)↔ExR k ix lt cm rd ok n a d dn))∧ai w w'):=by
 refine enter (n:=38) Tryz.func141 rfl rfl rfl (ao (ag (cj (v:=.agg _) rfl ?_)));intro b1 w1 E1 hb1 hk1;have hg1:w.heap.size≤b1:=by rw [hb1];exact Nat.le_refl _
 refine dq ji ?_;intro b2 w2 E2 hb2 hk2;have hlt:=hk1.lt;have hg2:w.heap.size≤b2:=by rw [hb2];exact ((ai.rfl_.next E1)).size
 have h12:b1<b2:=by omega
 replace hk1:=hk1.from_ E2;refine aq (ah (ao (ao (ag (ab (aa bJ rfl) (ab (au ak rfl (by exact hk1.rd 0 rfl)) ?_))))));refine aq (ah (bk (ao (ag (ab (bo rfl rfl) (asb rfl (aq (ah (yR rfl (fun Q3=>?_) (fun Q3=>?_))))))))))
 ·exfalso;omega
 refine ao (ag (ab (bo rfl rfl) (asb rfl (aq (ah (yR rfl (fun Q7=>?_) (fun Q7=>?_)))))))
 ·exfalso;omega
 refine ao (ag (ab (bo rfl rfl) (asb rfl (aq (ah (yR rfl (fun Q10=>?_) (fun Q10=>?_)))))))
 ·exfalso;omega
 refine ao (ag (ab (bo rfl rfl) (asb rfl (aq (ah (yR rfl (fun Q17=>?_) (fun Q17=>?_)))))))
 ·exfalso;omega
 refine ao (ag (ab (bo rfl rfl) (asb rfl (aq (ah (yR rfl (fun Q22=>?_) (fun Q22=>?_)))))));rotate_left
 ·exfalso;omega
 refine ag (ab (aa bW rfl) (fv (v:=.int _ _) bh rfl rfl rfl (hk1) (by show 0+4<13;decide) ?_));intro w29 O11_0 P11_0;replace hk2:=hk2.only O11_0 (by omega);replace hk1:Blk w29 b1 39 #[.int .i64 k,.int .i64 f,.int .i64 t,.int .i64 tm,.int .i64 0,.int .i64 lt,.int .i64 cm,.int .i64 rd,.bool ok,.slice E n c,.int .i64 a,.string d,.bool dn]:=P11_0;refine ab (aa ee rfl) (fv (v:=.int _ _) bh rfl rfl rfl (hk1) (by show 0+5<13;decide) ?_);intro w30 O11_1 P11_1;replace hk2:=hk2.only O11_1 (by omega);replace hk1:Blk w30 b1 39 #[.int .i64 k,.int .i64 f,.int .i64 t,.int .i64 tm,.int .i64 0,.int .i64 0,.int .i64 cm,.int .i64 rd,.bool ok,.slice E n c,.int .i64 a,.string d,.bool dn]:=P11_1;refine ab (aa dg rfl) (fv (v:=.int _ _) bh rfl rfl rfl (hk1) (by show 0+7<13;decide) ?_);intro w31 O11_2 P11_2;replace hk2:=hk2.only O11_2 (by omega);replace hk1:Blk w31 b1 39 #[.int .i64 k,.int .i64 f,.int .i64 t,.int .i64 tm,.int .i64 0,.int .i64 0,.int .i64 cm,.int .i64 0,.bool ok,.slice E n c,.int .i64 a,.string d,.bool dn]:=P11_2;refine ab (aa dd rfl) (fv (v:=.int _ _) bh rfl rfl rfl (hk1) (by show 0+10<13;decide) ?_);intro w32 O11_3 P11_3;replace hk2:=hk2.only O11_3 (by omega);replace hk1:Blk w32 b1 39 #[.int .i64 k,.int .i64 f,.int .i64 t,.int .i64 tm,.int .i64 0,.int .i64 0,.int .i64 cm,.int .i64 0,.bool ok,.slice E n c,.int .i64 0,.string d,.bool dn]:=P11_3;refine ab (aa eO rfl) (fv (v:=.string _) gi rfl rfl rfl (hk1) (by show 0+11<13;decide) ?_);intro w33 O11_4 P11_4;replace hk2:=hk2.only O11_4 (by omega);replace hk1:Blk w33 b1 39 #[.int .i64 k,.int .i64 f,.int .i64 t,.int .i64 tm,.int .i64 0,.int .i64 0,.int .i64 cm,.int .i64 0,.bool ok,.slice E n c,.int .i64 0,.string ⟨#[]⟩,.bool dn]:=P11_4;refine ab (aa jh rfl) (fv (v:=.bool _) nm rfl rfl rfl (hk1) (by show 0+12<13;decide) ?_);intro w34 O11_5 P11_5;replace hk2:=hk2.only O11_5 (by omega);replace hk1:Blk w34 b1 39 #[.int .i64 k,.int .i64 f,.int .i64 t,.int .i64 tm,.int .i64 0,.int .i64 0,.int .i64 cm,.int .i64 0,.bool ok,.slice E n c,.int .i64 0,.string ⟨#[]⟩,.bool false]:=P11_5;refine aq (bI (ah (ao (ag (ab (aR (cs:=[_,_,_,_,_,_,_,_,_,_,_,_,_]) bp bg rfl (by exact hk1.whole)) ?_)))));refine cZ (vs:=[_,_,_,_,_,_,_,_,_,_,_,_,_]) bg rfl rfl (by simp [Value.oneCell']) (hk2) rfl ?_;intro w35 O14 P14;refine aq (ah (aG (sw rfl (eP (cs:=[_,_,_,_,_,_,_,_,_,_,_,_,_]) bp bg rfl (by exact P14.whole)) ?_)));refine ⟨⟨_,_,_,_,_,_,_,_,_,_,_,rfl,?_⟩,(((((((((ai.rfl_.next E1).next E2).only O11_0 (hg1)).only O11_1 (hg1)).only O11_2 (hg1)).only O11_3 (hg1)).only O11_4 (hg1)).only O11_5 (hg1)).only O14 (hg2))⟩;unfold ExR
 first
  |(rw [if_pos (by omega)];(try simp only [Bool.toNat_false,bz,true_and,and_true]);first | done | omega)
  |(rw [if_neg (by omega),if_pos (by omega)];(try simp only [Bool.toNat_false,bz,true_and,and_true]);first | done | omega)
  |(rw [if_neg (by omega),if_neg (by omega),if_pos (by omega)];(try simp only [Bool.toNat_false,bz,true_and,and_true]);first | done | omega)
  |(rw [if_neg (by omega),if_neg (by omega),if_neg (by omega),if_pos (by omega)];(try simp only [Bool.toNat_false,bz,true_and,and_true]);first | done | omega)
  |(rw [if_neg (by omega),if_neg (by omega),if_neg (by omega),if_neg (by omega),if_pos (by omega)];(try simp only [Bool.toNat_false,bz,true_and]);first | done | omega)
  |(rw [if_neg (by omega),if_neg (by omega),if_neg (by omega),if_neg (by omega),if_neg (by omega),if_pos (by omega)];(try simp only [Bool.toNat_false,bz,true_and,and_true]);first | done | omega)
  |(rw [if_neg (by omega),if_neg (by omega),if_neg (by omega),if_neg (by omega),if_neg (by omega),if_neg (by omega)];omega)
theorem mf (k f t tm ix lt cm rd:Int) (ok:Bool) (E:Option Addr) (n c:Nat) (a:Int) (d:ByteArray) (dn:Bool) (w:World) (hk:k=5) (es:List Ent) (hn:n=es.length) (he:cQ w (.slice E n c) es) (_:es.length≤400000000000) (_:0≤ix∧ix≤1099511627775) (_:0≤lt∧lt≤1099511627775) :
 Rt prog 142 [.agg #[.int .i64 k,.int .i64 f,.int .i64 t,.int .i64 tm,.int .i64 ix,.int .i64 lt,.int .i64 cm,.int .i64 rd,.bool ok,.slice E n c,.int .i64 a,.string d,.bool dn]] w (fun v w'=>v=.bool (decide (si k ix lt es))∧ai w w'):=by
 subst hn;refine enter (n:=29) Tryz.func142 rfl rfl rfl (ao (ag (cj (v:=.agg _) rfl ?_)));intro b1 w1 E1 hb1 hk1;refine asb rfl (aq (ah (ao (ao (ag (ab (aa bJ rfl) (ab (au ak rfl (by exact (hk1.from_ ai.rfl_).rd 0 rfl)) ?_)))))));refine ab (cz rfl rfl) (aq (ah (aO rfl (fun Q2=>?_) (fun Q2=>?_))));rotate_left
 ·replace Q2:=eu Q2;replace Q2:=d_ Q2;exfalso;omega
 replace Q2:=et Q2;replace Q2:=ea Q2;refine ao (ag (asb rfl (aq (ah (aG (aH (bF (v:=.bool _) rfl rfl (⟨congrArg Value.bool (decide_eq_true ?_).symm,(ai.rfl_.next E1)⟩))))))));intro h;omega
theorem ou (k f t tm ix lt cm rd:Int) (ok:Bool) (E:Option Addr) (n c:Nat) (a:Int) (d:ByteArray) (dn:Bool) (w:World) (hk:k=5) :
 Rt prog 143 [.agg #[.int .i64 k,.int .i64 f,.int .i64 t,.int .i64 tm,.int .i64 ix,.int .i64 lt,.int .i64 cm,.int .i64 rd,.bool ok,.slice E n c,.int .i64 a,.string d,.bool dn]] w (fun v w'=>v=.bool (decide (ir k ix a d))∧ai w w'):=by
 refine enter (n:=23) Tryz.func143 rfl rfl rfl (ao (ag (cj (v:=.agg _) rfl ?_)));intro b1 w1 E1 hb1 hk1;refine asb rfl (aq (ah (ao (ag (ab (aa bJ rfl) (ab (au ak rfl (by exact (hk1.from_ ai.rfl_).rd 0 rfl)) ?_))))));refine ab (cz rfl rfl) (mvb rfl (aM (t:=6) rfl (fun Q2=>?_) (fun Q2=>?_)))
 ·replace Q2:=et Q2;replace Q2:=ea Q2;exfalso;omega
 replace Q2:=eu Q2;replace Q2:=d_ Q2;refine aj rfl (ab (aa bW rfl) (aj rfl (ab (au ak rfl (by exact (hk1.from_ ai.rfl_).rd 4 rfl)) ?_)));refine aj rfl (ej (v:=.int _ _) aS rfl rfl rfl ?_);intro b9 w3 E9 hb9 hk9;refine aj rfl (aE ei (fe 1 1099511625728 b9 1 1 [ix] _ rfl hk9 (by simp)) ?_);rintro v10 w4 ⟨rfl,rfl⟩;refine aj rfl (mvb rfl (ym (t:=11) rfl (fun Q5=>?_) (fun Q5=>?_)))
 ·simp only [aL,aP,and_true] at Q5;refine aj rfl (ab (aa dd rfl) (aj rfl (ab (au ak rfl (by exact (hk1.from_ (ai.rfl_.next E9)).rd 10 rfl)) ?_)));refine aj rfl (ab (fx rfl rfl) (aj rfl (ab (aJ (v:=.bool _) rfl rfl) (aj rfl (mvb rfl (ym (t:=16) rfl (fun Q6=>?_) (fun Q6=>?_)))))))
  ·refine aj rfl (ab (aa eO rfl) (aj rfl (ab (au bQ rfl (by exact (hk1.from_ (ai.rfl_.next E9)).rd 11 rfl)) ?_)));refine aj rfl (ab (dA (by kernel_rfl) rfl) (aj rfl (ab (fx rfl rfl) (aj rfl (ab (aJ (v:=.bool _) rfl rfl) (ab (aB (v:=.bool _) rfl rfl) (asb rfl (aq (ah (aG ?_))))))))));refine bF (v:=.bool _) rfl rfl (⟨congrArg Value.bool ?_,((ai.rfl_.next E1).next E9)⟩)
   first
    |(rw [eq_comm,decide_eq_false_iff_not];unfold ir;omega)
    |(rw [decide_eq_decide];unfold ir;omega)
    |(rw [eq_comm,decide_eq_true_eq];unfold ir;omega)
  refine ar rfl rfl (ar rfl rfl (ar rfl rfl (ar rfl rfl (aj rfl (ab (aB (v:=.bool _) rfl rfl) (ab (aB (v:=.bool _) rfl rfl) (asb rfl (aq (ah (aG ?_))))))))));refine bF (v:=.bool _) rfl rfl (⟨congrArg Value.bool ?_,((ai.rfl_.next E1).next E9)⟩)
  first
   |(rw [eq_comm,decide_eq_false_iff_not];unfold ir;omega)
   |(rw [decide_eq_decide];unfold ir;omega)
   |(rw [eq_comm,decide_eq_true_eq];unfold ir;omega)
 simp only [aL,aP,and_true] at Q5;refine ar rfl rfl (ar rfl rfl (ar rfl rfl (aj rfl (ab (aB (v:=.bool _) rfl rfl) (aj rfl (mvb rfl (ar rfl rfl (ar rfl rfl ?_))))))));refine ar rfl rfl (ar rfl rfl (aj rfl (ab (aB (v:=.bool _) rfl rfl) (ab (aB (v:=.bool _) rfl rfl) (asb rfl (aq (ah (aG (bF (v:=.bool _) rfl rfl (⟨congrArg Value.bool ?_,((ai.rfl_.next E1).next E9)⟩))))))))))
 first
  |(rw [eq_comm,decide_eq_false_iff_not];unfold ir;omega)
  |(rw [decide_eq_decide];unfold ir;omega)
  |(rw [eq_comm,decide_eq_true_eq];unfold ir;omega)
theorem u_ (k f t tm ix lt cm rd:Int) (ok:Bool) (E:Option Addr) (n c:Nat) (a:Int) (d:ByteArray) (dn:Bool) (w:World) (hk:k=5) (es:List Ent) (hn:n=es.length) (he:cQ w (.slice E n c) es) (hl:es.length≤400000000000) :
 Rt prog 98 [.agg #[.int .i64 k,.int .i64 f,.int .i64 t,.int .i64 tm,.int .i64 ix,.int .i64 lt,.int .i64 cm,.int .i64 rd,.bool ok,.slice E n c,.int .i64 a,.string d,.bool dn]] w (fun v w'=>v=.int .i64 (if OkR k f t tm ix lt cm rd ok es a d dn then 0 else 1)∧ai w w'):=by
 refine enter (n:=47) Tryz.func98 rfl rfl rfl (ao (ag (cj (v:=.agg _) rfl ?_)));intro b1 w1 E1 hb1 hk1;refine asi rfl (aq (ah (ao (ag (ab (aa bJ rfl) (ab (au ak rfl (by exact (hk1.from_ ai.rfl_).rd 0 rfl)) ?_))))));refine ej (v:=.int _ _) aS rfl rfl rfl ?_;intro b6 w2 E6 hb6 hk6;refine aE ei (fe 1 6 b6 1 1 [k] _ rfl hk6 (by simp)) ?_;rintro v7 w3 ⟨rfl,rfl⟩;refine mvb rfl (ym (t:=8) rfl (fun Q4=>?_) (fun Q4=>?_))
 ·simp only [aL,aP,and_true] at Q4;have h8:=Q4;refine aj rfl (ab (aa bx rfl) (aj rfl (ab (au ak rfl (by exact (hk1.from_ (ai.rfl_.next E6)).rd 1 rfl)) ?_)));refine aj rfl (ab (aa ft rfl) (aj rfl (ab (au ak rfl (by exact (hk1.from_ (ai.rfl_.next E6)).rd 2 rfl)) ?_)));refine aj rfl (fA [.tmp 10,.tmp 12] [.int _ _,.int _ _] aS rfl rfl rfl rfl (by simp [Value.cells]) ?_);intro b13 w5 E13 hb13 hk13;refine aj rfl (aE ei (fe 1 7 b13 2 2 [f,t] _ rfl hk13 (by simp)) ?_);rintro v14 w6 ⟨rfl,rfl⟩;refine ab (aJ (v:=.bool _) rfl rfl) (mvb rfl (ym (t:=16) rfl (fun Q7=>?_) (fun Q7=>?_)))
  ·simp only [aL,aP,and_true] at Q7;have h16:=Q7;refine aj rfl (ab (aa bG rfl) (aj rfl (ab (au ak rfl (by exact (hk1.from_ ((ai.rfl_.next E6).next E13)).rd 3 rfl)) ?_)));refine aj rfl (ab (aa bW rfl) (aj rfl (ab (au ak rfl (by exact (hk1.from_ ((ai.rfl_.next E6).next E13)).rd 4 rfl)) ?_)));refine aj rfl (ab (aa ee rfl) (aj rfl (ab (au ak rfl (by exact (hk1.from_ ((ai.rfl_.next E6).next E13)).rd 5 rfl)) ?_)));refine aj rfl (ab (aa iG rfl) (aj rfl (ab (au ak rfl (by exact (hk1.from_ ((ai.rfl_.next E6).next E13)).rd 6 rfl)) ?_)));refine aj rfl (ab (aa dg rfl) (aj rfl (ab (au ak rfl (by exact (hk1.from_ ((ai.rfl_.next E6).next E13)).rd 7 rfl)) ?_)));refine aj rfl (ab (aa dd rfl) (aj rfl (ab (au ak rfl (by exact (hk1.from_ ((ai.rfl_.next E6).next E13)).rd 10 rfl)) ?_)));refine aj rfl (fA [.tmp 18,.tmp 20,.tmp 22,.tmp 24,.tmp 26,.tmp 28] [.int _ _,.int _ _,.int _ _,.int _ _,.int _ _,.int _ _] aS rfl rfl rfl rfl (by simp [Value.cells]) ?_);intro b29 w8 E29 hb29 hk29;refine aj rfl (aE ei (fe 0 1099511627775 b29 6 6 [tm,ix,lt,cm,rd,a] _ rfl hk29 (by simp)) ?_);rintro v30 w9 ⟨rfl,rfl⟩;refine ab (aJ (v:=.bool _) rfl rfl) (mvb rfl (ym (t:=32) rfl (fun Q10=>?_) (fun Q10=>?_)))
   ·simp only [aL,aP,and_true] at Q10;have h32:=Q10;refine aj rfl (ab (aR (cs:=[_,_,_,_,_,_,_,_,_,_,_,_,_]) bp bg rfl (by exact (hk1.from_ (((ai.rfl_.next E6).next E13).next E29)).whole)) ?_);refine aj rfl (aE jE (qW k f t tm ix lt cm rd ok E n c a d dn _ hk) ?_);rintro v34 w11 ⟨⟨ix',lt',cm',rd',ok',E',n',c',a',d',dn',rfl,hex⟩,E34⟩;refine aj rfl (aE jF (oN k f t tm ix' lt' cm' rd' ok' E' n' c' a' d' dn' _) ?_);rintro v35 w12 ⟨rfl,E35⟩;refine ab (aJ (v:=.bool _) rfl rfl) (mvb rfl (ym (t:=37) rfl (fun Q13=>?_) (fun Q13=>?_)))
    ·have hx:=hex.1 Q13;have h37:=Q13;refine aj rfl (ab (aR (cs:=[_,_,_,_,_,_,_,_,_,_,_,_,_]) bp bg rfl (by exact (hk1.from_ (((((ai.rfl_.next E6).next E13).next E29).next E34).next E35)).whole)) ?_);refine aj rfl (aE jD (mf k f t tm ix lt cm rd ok E n c a d dn _ hk es hn (he.from_ ((((((ai.rfl_.next E1).next E6).next E13).next E29).next E34).next E35)) hl (by omega) (by omega)) ?_);rintro v39 w14 ⟨rfl,E39⟩;refine ab (aJ (v:=.bool _) rfl rfl) (mvb rfl (ym (t:=41) rfl (fun Q15=>?_) (fun Q15=>?_)))
     ·have h41:=Q15;refine aj rfl (ab (aR (cs:=[_,_,_,_,_,_,_,_,_,_,_,_,_]) bp bg rfl (by exact (hk1.from_ ((((((ai.rfl_.next E6).next E13).next E29).next E34).next E35).next E39)).whole)) ?_);refine aj rfl (aE jC (ou k f t tm ix lt cm rd ok E n c a d dn _ hk) ?_);rintro v43 w16 ⟨rfl,E43⟩;refine ab (aJ (v:=.bool _) rfl rfl) (asb rfl (aq (ah (ao (ao (ag (mvb rfl (ab (cE rfl) (aq (ah (aO rfl (fun Q17=>?_) (fun Q17=>?_))))))))))))
      ·replace Q17:=et Q17;replace Q17:=dF_ Q17;have hno:¬ (OkR k f t tm ix lt cm rd ok es a d dn):=fun h=>Q17 h.2.2.2
       refine ao (ag (asi rfl (aq (ah (aG (aH (bF (v:=.int _ _) rfl rfl (⟨aZ (by rw [if_neg hno]),((((((((ai.rfl_.next E1).next E6).next E13).next E29).next E34).next E35).next E39).next E43)⟩))))))))
      replace Q17:=eu Q17;replace Q17:=dT_ Q17;have hyes:OkR k f t tm ix lt cm rd ok es a d dn:=⟨by unfold jk;omega,hn ▸ hx,h41,Q17⟩;refine aI (ah (ao (ag (asi rfl (aq (ah (aG (bF (v:=.int _ _) rfl rfl (⟨aZ (by rw [if_pos hyes]),((((((((ai.rfl_.next E1).next E6).next E13).next E29).next E34).next E35).next E39).next E43)⟩)))))))))
     have hno:¬ (OkR k f t tm ix lt cm rd ok es a d dn):=fun h=>Q15 h.2.2.1
     refine ar rfl rfl (ar rfl rfl (ab (aB (v:=.bool _) rfl rfl) (asb rfl (aq (ah (ao (ao (ag (mvb rfl (ab (cE rfl) (aq (ah (aW rfl ?_)))))))))))));refine ao (ag (asi rfl (aq (ah (aG (aH (bF (v:=.int _ _) rfl rfl (⟨aZ (by rw [if_neg hno]),(((((((ai.rfl_.next E1).next E6).next E13).next E29).next E34).next E35).next E39)⟩))))))))
    have hno:¬ (OkR k f t tm ix lt cm rd ok es a d dn):=fun h=>Q13 (hex.2 (hn ▸ h.2.1))
    refine ar rfl rfl (ar rfl rfl (ab (aB (v:=.bool _) rfl rfl) (mvb rfl (ar rfl rfl (ar rfl rfl (ab (aB (v:=.bool _) rfl rfl) (asb rfl (aq (ah (ao (ao (ag ?_))))))))))));refine mvb rfl (ab (cE rfl) (aq (ah (aW rfl (ao (ag (asi rfl (aq (ah (aG (aH (bF (v:=.int _ _) rfl rfl (⟨aZ (by rw [if_neg hno]),((((((ai.rfl_.next E1).next E6).next E13).next E29).next E34).next E35)⟩)))))))))))))
   simp only [aL,aP,and_true] at Q10;have hno:¬ (OkR k f t tm ix lt cm rd ok es a d dn):=fun h=>Q10 (by have:=h.1;unfold jk at this;omega)
   refine ar rfl rfl (ar rfl rfl (ar rfl rfl (ab (aB (v:=.bool _) rfl rfl) (mvb rfl (ar rfl rfl (ar rfl rfl (ab (aB (v:=.bool _) rfl rfl) (mvb rfl ?_))))))));refine ar rfl rfl (ar rfl rfl (ab (aB (v:=.bool _) rfl rfl) (asb rfl (aq (ah (ao (ao (ag (mvb rfl (ab (cE rfl) (aq (ah (aW rfl ?_)))))))))))));refine ao (ag (asi rfl (aq (ah (aG (aH (bF (v:=.int _ _) rfl rfl (⟨aZ (by rw [if_neg hno]),((((ai.rfl_.next E1).next E6).next E13).next E29)⟩))))))))
  simp only [aL,aP,and_true] at Q7;have hno:¬ (OkR k f t tm ix lt cm rd ok es a d dn):=fun h=>Q7 (by have:=h.1;unfold jk at this;omega)
  refine ar rfl rfl (ar rfl rfl (ar rfl rfl (ar rfl rfl (ar rfl rfl (ar rfl rfl (ar rfl rfl (ar rfl rfl (ar rfl rfl ?_))))))));refine ar rfl rfl (ar rfl rfl (ar rfl rfl (ar rfl rfl (ar rfl rfl (ab (aB (v:=.bool _) rfl rfl) (mvb rfl (ar rfl rfl (ar rfl rfl ?_))))))));refine ar rfl rfl (ab (aB (v:=.bool _) rfl rfl) (mvb rfl (ar rfl rfl (ar rfl rfl (ab (aB (v:=.bool _) rfl rfl) (mvb rfl (ar rfl rfl (ar rfl rfl ?_))))))));refine ab (aB (v:=.bool _) rfl rfl) (asb rfl (aq (ah (ao (ao (ag (mvb rfl (ab (cE rfl) (aq (ah (aW rfl (ao (ag (asi rfl ?_))))))))))))));refine aq (ah (aG (aH (bF (v:=.int _ _) rfl rfl (⟨aZ (by rw [if_neg hno]),(((ai.rfl_.next E1).next E6).next E13)⟩)))))
 simp only [aL,aP,and_true] at Q4;have hno:¬ (OkR k f t tm ix lt cm rd ok es a d dn):=fun h=>Q4 (by have:=h.1;unfold jk at this;omega)
 refine ar rfl rfl (ar rfl rfl (ar rfl rfl (ar rfl rfl (ar rfl rfl (ar rfl rfl (ab (aB (v:=.bool _) rfl rfl) (mvb rfl (ar rfl rfl ?_))))))));refine ar rfl rfl (ar rfl rfl (ar rfl rfl (ar rfl rfl (ar rfl rfl (ar rfl rfl (ar rfl rfl (ar rfl rfl (ar rfl rfl ?_))))))));refine ar rfl rfl (ar rfl rfl (ar rfl rfl (ar rfl rfl (ab (aB (v:=.bool _) rfl rfl) (mvb rfl (ar rfl rfl (ar rfl rfl (ar rfl rfl ?_))))))));refine ab (aB (v:=.bool _) rfl rfl) (mvb rfl (ar rfl rfl (ar rfl rfl (ab (aB (v:=.bool _) rfl rfl) (mvb rfl (ar rfl rfl (ar rfl rfl (ab (aB (v:=.bool _) rfl rfl) ?_))))))));refine asb rfl (aq (ah (ao (ao (ag (mvb rfl (ab (cE rfl) (aq (ah (aW rfl (ao (ag (asi rfl (aq (ah (aG (aH ?_)))))))))))))))));refine bF (v:=.int _ _) rfl rfl (⟨aZ (by rw [if_neg hno]),((ai.rfl_.next E1).next E6)⟩)
theorem vd {m:Msg} (hl:m.es.length≤1000000) (hk:m.k=5):o6 m:=fun w he=>u_ m.k m.f m.t m.tm m.ix m.lt m.cm m.rd m.ok m.E m.es.length m.c m.a m.d m.dn w hk m.es rfl he (by omega)
end Go.Proofs.YtkpooenofjdpmaaGreat
