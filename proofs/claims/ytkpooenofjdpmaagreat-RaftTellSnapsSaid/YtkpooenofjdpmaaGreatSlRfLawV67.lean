/- texts that the claim stands on. -/
import Derived.Test.YtkpooenofjdpmaaGreatSlRfLawV66

set_option maxRecDepth 100000
set_option maxHeartbeats 4000000
namespace Go.Proofs.YtkpooenofjdpmaaGreat
open Go.Proofs.Tryz (prog)
open Go.RowKit
open Go.ChangeShapes Go.WideShapes Go.ChangeAt
theorem sK:aP prog 146=true:=by kernel_rfl
theorem jz:aP prog 149=true:=by kernel_rfl
theorem sJ:aP prog 150=true:=by kernel_rfl
def gN (id rn:Int) (q:Rd):Rd:=if q.rn≤rn then { q with acks:=dM q.acks id } else q
def gr (f:Rd→Rd) (l:List Rd) (i:Nat):List Rd:=(l.take i).map f++l.drop i
section
variable {f:Rd→Rd} {l:List Rd} {i:Nat}
theorem yy:gr f l l.length=l.map f:=by unfold gr;rw [List.take_length,List.drop_length,List.append_nil]
theorem yz:(gr f l i).length=l.length:=by unfold gr;rw [List.length_append,List.length_map,List.length_take,List.length_drop];omega
theorem o5 (h:i<l.length):(gr f l i)[i]'(by rw [yz];exact h)=l[i]:=by
 unfold gr;rw [List.getElem_append_right (by rw [List.length_map,List.length_take];omega)];simp only [List.length_map,List.length_take,List.getElem_drop]
 congr 1
 omega
theorem o4 (h:i<l.length):(gr f l i).set i (f l[i])=gr f l (i+1):=by
 have ht:((l.take i).map f).length=i:=by rw [List.length_map,List.length_take];omega
 unfold gr;rw [List.set_append_right _ _ (by omega),ht,Nat.sub_self,List.drop_eq_getElem_cons h,List.set_cons_zero,List.take_succ_eq_append_getElem h,List.map_append,List.append_assoc];rfl
theorem qk (h:i<l.length) (he:f l[i]=l[i]):gr f l (i+1)=gr f l i:=by
 have h9:=o5 (f:=f) h;rw [←o4 h,he,←h9,List.set_getElem_self]
end
theorem tH:∀ (L:List (Rd×Option Addr×Nat)) (i:Nat) (hi:i<L.length) (l2:List Int) (A2:Option Addr) (c2:Nat),(L.flatMap rdV).set (i*4+3) (.slice A2 l2.length c2)=(L.set i ({ L[i].1 with acks:=l2 },A2,c2)).flatMap rdV
 |[],i,hi,_,_,_=>absurd hi (Nat.not_lt_zero _)
 |x::r,0,_,l2,A2,c2=>rfl
 |x::r,i+1,hi,l2,A2,c2=>by
  have h1:=tH r i (by simpa using hi) l2 A2 c2;show (rdV x++r.flatMap rdV).set ((i+1)*4+3) _=rdV x++(r.set i _).flatMap rdV;rw [List.set_append_right _ _ (by rw [ib];omega),ib,show (i+1)*4+3-4=i*4+3 by omega,h1];rfl
section
variable {w0 w w1 w2:World} {Z:Nat→Prop} {T g oc i gQ c2:Nat} {tag:Nat→Nat} {s:Rf} {out L:List Msg} {a:Ra} {O A2:Option Addr} {l2:List Int} {x:Rd×Option Addr×Nat}
theorem kZ {d base e sz n cc y:Nat} {A:Option Addr} {xs:List Value} (hC:Chg (fun k=>tag k=y) w w1) (hO:d_ gQ w1 w2) (hg:tag gQ=5) (hgl:gQ<w.heap.size) (hy:d≠y) (h5:d≠5) (h:w.ownsRow base e sz (.slice A n cc) n xs∧Col tag d A):w2.ownsRow base e sz (.slice A n cc) n xs∧Col (ez w.heap.size y tag) d A:=by
 have h1:=ed hC hy h;exact ⟨fx h1.1 hO (fun k hk e=>h5 ((h1.2 k hk).symm.trans (by rw [e,cA hgl];exact hg))),h1.2⟩
theorem bm.ack1 (h:bm w tag s a) (hi:i<a.L.length) (hC:Chg (fun k=>tag k=1001+2*i) w w1) (hx:x=({ a.L[i].1 with acks:=l2 },A2,c2)) (ho:w1.ownsRow 0 3 1 (.slice A2 l2.length c2) l2.length (l2.map iV)) (hL:∀ k,A2.map (·.block)=some k→a.L[i].2.1.map (·.block)=some k∨w.heap.size≤k)
 (hg:tag gQ=5) (hgl:gQ<w.heap.size) (hO:d_ gQ w1 w2) (hq:w2.ownsRow 0 54 4 (.slice a.Q a.L.length a.Qc) a.L.length ((a.L.set i x).flatMap rdV)):bm w2 (ez w.heap.size (1001+2*i) tag) { s with reads:=(a.L.set i x).map fun q=>q.1 } { a with L:=a.L.set i x }:=by
 subst hx;refine ⟨fun _=>kZ hC hO hg hgl (by omega) (by decide) (h.e (by decide)),fun _=>kZ hC hO hg hgl (by omega) (by decide) (h.v (by decide)),fun _=>kZ hC hO hg hgl (by omega) (by decide) (h.x (by decide)),fun _=>kZ hC hO hg hgl (by omega) (by decide) (h.m (by decide)),fun _=>kZ hC hO hg hgl (by omega) (by decide) (h.n (by decide)),fun _=>rfl,fun _=>?_,fun j hj _=>?_⟩
 ·refine ⟨?_,(h.q (by decide)).2.re (dG (h.q (by decide)).1)⟩;simp only [List.length_set];exact hq
 ·simp only [List.length_set] at hj;by_cases e:i=j
  ·subst e;simp only [List.getElem_set_self];refine ⟨fx ho hO (fun k hk e=>?_),fun k hk=>?_⟩
   ·rcases hL k hk with h1 | h1
    ·have:=(h.k i hi (by omega)).2 k h1;rw [e,hg] at this;omega
    ·omega
   ·rcases hL k hk with h1 | h1
    ·rw [cA (dG (h.k i hi (by omega)).1 k h1)];exact (h.k i hi (by omega)).2 k h1
    ·exact dH h1
  ·simp only [List.getElem_set_ne e];exact kZ hC hO hg hgl (by omega) (by omega) (h.k j hj (by omega))
theorem aQ.ack1 (h:aQ w0 Z w T g ⟨s,out⟩) (hs:eX w Z T g tag ⟨s,out⟩ a O oc L) (hi:i<a.L.length) (hC:Chg (fun k=>tag k=1001+2*i) w w1) (hx:x=({ a.L[i].1 with acks:=l2 },A2,c2)) (ho:w1.ownsRow 0 3 1 (.slice A2 l2.length c2) l2.length (l2.map iV)) (hL:∀ k,A2.map (·.block)=some k→a.L[i].2.1.map (·.block)=some k∨w.heap.size≤k)
 (hQ:a.Q=some ⟨gQ,0,none⟩) (hO:d_ gQ w1 w2) (hq:w2.ownsRow 0 54 4 (.slice a.Q a.L.length a.Qc) a.L.length ((a.L.set i x).flatMap rdV)) :
 eX w2 Z T g (ez w.heap.size (1001+2*i) tag) ⟨{ s with reads:=(a.L.set i x).map fun q=>q.1 },out⟩ { a with L:=a.L.set i x } O oc L∧aQ w0 Z w2 T g ⟨{ s with reads:=(a.L.set i x).map fun q=>q.1 },out⟩:=by
 have hqo:=hs.f.q (by decide);have hg:tag gQ=5:=hqo.2 gQ (by rw [hQ];rfl);have hgl:gQ<w.heap.size:=dG hqo.1 gQ (by rw [hQ];rfl);have hf:=hs.f.ack1 hi hC hx ho hL hg hgl hO hq;have hz:∀ k,Z k→k<w.heap.size:=h.zw;have hm:=hs.m.chg hC (by omega) (fun j _=>by omega);have hgt:ez w.heap.size (1001+2*i) tag gQ=5:=(cA hgl).trans hg;have mv:∀ {d e sz n cc:Nat} {A:Option Addr} {xs:List Value},d≠5→w1.ownsRow 0 e sz (.slice A n cc) n xs∧Col (ez w.heap.size (1001+2*i) tag) d A→w2.ownsRow 0 e sz (.slice A n cc) n xs∧Col (ez w.heap.size (1001+2*i) tag) d A:=fun hd h1=>⟨fx h1.1 hO fun k hk e=>hd ((h1.2 k hk).symm.trans (by rw [e];exact hgt)),h1.2⟩
 have hgg:g≠gQ:=fun e=>by have:=hs.gc;rw [e,hg] at this;cases this
 have hb:Blk w2 g T (rfV { s with reads:=(a.L.set i x).map fun q=>q.1 } { a with L:=a.L.set i x }++[Value.slice O L.length oc]).toArray:=by
  have h1:=(hs.b.chg hC (fun e=>by have:=hs.gc;omega)).only hO hgg
  have e1:rfV { s with reads:=(a.L.set i x).map fun q=>q.1 } { a with L:=a.L.set i x }=rfV s a:=by
   unfold rfV;simp only [List.length_set]
  rw [e1];exact h1
 have h1:eX w2 Z T g (ez w.heap.size (1001+2*i) tag) ⟨{ s with reads:=(a.L.set i x).map fun q=>q.1 },out⟩ { a with L:=a.L.set i x } O oc L:=
  ⟨hb,hf,⟨(mv (d:=6) (by decide) ⟨hm.o,hm.c⟩).1,hm.l,fun j hj=>mv (by omega) (hm.e j hj),hm.c⟩,(cA hs.b.lt).trans hs.gc,fun k hk=>(cA (hz k hk)).trans (hs.z k hk)⟩
 refine ⟨h1,⟨⟨_,_,_,_,_,h1⟩,h.zl,?_⟩⟩;refine (h.fr.next (hC.wide fun k hk=>.inl fun hz1=>?_)).next ((hO.toChg (U:=fun k=>k=gQ) rfl).wide fun k hk=>.inl fun hz1=>?_)
 ·have:=hs.z k hz1;omega
 ·have:=hs.z k hz1;rw [show k=gQ from hk,hg] at this;cases this
end
theorem vi {s:Rf} (h:RfF s) {i:Nat} (hi:i<s.reads.length):s.reads[i].acks.Pairwise (·<·)∧s.reads[i].acks.length≤7:=by
 have h1:=et.1 (h.rd _ (List.getElem_mem hi));have h2:fu s.reads[i].acks s.nodes=true:=h1.2.2.2;have h3:=kB h2;refine ⟨ov _ h3.2,?_⟩;have h4:=jL _ 0 s.nodes h3.2 (fun x hx=>by have:=h3.1 x hx;omega);have:=h.n;omega
theorem qD (l:List Int) (k:Nat) (v:Int):bK l ((k:Int)+1) v=l.set k v:=by
 unfold bK;rw [show ((k:Int)+1-1).toNat=k by omega]
theorem qU (w0:World) (Z:Nat→Prop) (T g:Nat) (s:Rf) (out:List Msg) (w:World) (h:aQ w0 Z w T g ⟨s,out⟩) (hF:RfF s) (id rn:Int) :
 Rt prog 149 [.pointer (some ⟨g,0,none⟩),.int .i64 id,.int .i64 rn] w (fun v w'=>v=.tuple #[]∧aQ w0 Z w' T g ⟨js s id rn,out⟩):=by
 have hrl:=hF.rl;obtain ⟨tag,⟨E,Ec,V,Vc,X,Xc,M,Mc,Sn,Sc,Q,Qc,LL⟩,O,oc,L,hs⟩:=h.ex;have hrL:LL.map (fun q=>q.1)=s.reads:=hs.f.r (by decide);have hln:LL.length=s.reads.length:=by rw [←hrL,List.length_map]
 obtain ⟨n,hn⟩:∃ n,n=LL.length:=⟨_,rfl⟩;have hb:=hs.b;refine enter (n:=36) Tryz.func149 rfl rfl rfl (an (af (mvp rfl (ab (av rfl) (ab (aa az rfl) (ab (aa bH rfl) ?_))))));refine ab (au du rfl (by exact (show _=some (Value.slice Q n Qc) from by rw [hn];exact ch (hb.from_ ai.rfl_) 19 rfl))) ?_;refine ab (bL eK rfl) (mvi rfl (ak (ag (bf (cS (G:=Nat×(Nat→Nat)×List (Rd×Option Addr×Nat)) [6,7,15,16,17,18,19,20,21,22,23,24,25,26,27,28,29,30,31,32,33,34,35] (fun (i,_,_)=>[(14,.int .i64 (i:Nat))]) (fun (i,tg,L9) w'=>i≤n∧L9.length=n∧aQ w0 Z w' T g ⟨({ s with reads:=gr (gN id rn) s.reads i }:Rf),out⟩∧eX w' Z T g tg ⟨({ s with reads:=gr (gN id rn) s.reads i }:Rf),out⟩ (⟨E,Ec,V,Vc,X,Xc,M,Mc,Sn,Sc,Q,Qc,L9⟩:Ra) O oc L) (fun (i,_,_)=>n-i) ((0,tag,LL)) ⟨rfl,trivial⟩ ?_ ?_)))))
 ·exact ⟨Nat.zero_le _,hn.symm,h.from_ ai.rfl_,hs.from_ ai.rfl_⟩
 rintro ⟨i,tg,L9⟩ ρ1 w1 ⟨hi,hl9,h5,hs5⟩;refine an (af (ab (bZ rfl rfl) (ak (ag (an (Bu rfl (fun Q2=>?_) (fun Q2=>?_)))))))
 ·have hkL:i<L9.length:=by omega
  have hkr:i<s.reads.length:=by omega
  have hm9:L9.map (fun q=>q.1)=gr (gN id rn) s.reads i:=hs5.f.r (by decide)
  have h19:L9[i].1=s.reads[i]:=by
   rw [←o5 (f:=gN id rn) hkr];have:=List.getElem_map (fun q:Rd×Option Addr×Nat=>q.1) (l:=L9) (i:=i) (h:=by rw [List.length_map];exact hkL);rw [←this];simp only [hm9]
  have hac:=vi hF hkr;rw [←h19] at hac;obtain ⟨gQ,rfl⟩:∃ q,Q=some ⟨q,0,none⟩:=c8 (hs5.f.q (by decide)).1 (by show 0<L9.length;omega);obtain ⟨ba,oa,heq,hcs⟩:=(bm.rd hs5.f).q (by show 0<L9.length;omega);obtain ⟨rfl,rfl⟩:gQ=ba∧0=oa:=by cases heq;exact ⟨rfl,rfl⟩
  have hEi:ai w1 w1:=ai.rfl_;refine aN (ag (an (bf (an (af (mvi rfl (ab (bN eT rfl rfl (by omega)) (ab (aK (cs:=rdV L9[i]) gI eS rfl (ft ai.rfl_ (hcs i hkL))) (bU iD ?_)))))))));intro b7 w3 E7 hb7 hk7;have hg7:=Nat.le_trans hEi.size (Nat.le_of_eq hb7.symm);have hE7:=hEi.next E7;refine asi rfl (cq (vs:=[_,_,_,_]) eS rfl rfl (by simp [Value.oneCell']) ((hk7.from_ ai.rfl_)) rfl ?_);intro w4 O2 P2;have hE2:=hE7.only O2 hg7;have hs3:=hs5.from_ hE2;have h3:=h5.from_ hE2;have P2b:=P2;have hkO:=(hs3.f.k i hkL (by omega)).1
  have hrQ:∀ w9,(w4).grownBy w9 (L9[i].2.1.map (·.block))→w9.cell? ⟨g,19,none⟩=some (.slice (some ⟨gQ,0,none⟩) n Qc):=fun w9 hF9=>by
   have h9:=ch (hs3.b.chg (Chg.of_grown (U:=fun q=>tg q=1001+2*i) hF9 (fun q hq=>(hs3.f.k i hkL (by omega)).2 q hq)) (fun e=>by have:=hs3.gc;omega)) 19 rfl;rw [show (Ra.L ⟨E,Ec,V,Vc,X,Xc,M,Mc,Sn,Sc,some ⟨gQ,0,none⟩,Qc,L9⟩).length=n from hl9] at h9;exact h9
  refine ak (ag (an (af (ab (aa gu rfl) (ab (au ao rfl (show _=some (Value.int .i64 L9[i].1.rn) from (P2b.from_ ai.rfl_).rd 2 rfl)) (mvi rfl (ab (eW rfl rfl) (ak (ag (Bu rfl (fun Q5=>?_) (fun Q5=>?_)))))))))))
  ·have hle:L9[i].1.rn≤rn:=by omega
   apply uj 12 9 [] [(23,eqp _),(24,eqp _),(25,eqp _),(26,eqp _),(27,eqp (.slice (some ⟨gQ,0,none⟩) n Qc)),(28,eqp (.int .i64 (i:Nat))),(29,eqp _),(30,eqp (.slice L9[i].2.1 L9[i].1.acks.length L9[i].2.2)),(31,eqp _),(32,fun (v:Value) (w':World)=>∃ (A2:Option Addr) (c2:Nat),v=Value.slice A2 (dM L9[i].1.acks id).length c2∧w'.ownsRow 0 3 1 (.slice A2 (dM L9[i].1.acks id).length c2) (dM L9[i].1.acks id).length ((dM L9[i].1.acks id).map iV)∧(∀ k,A2.map (·.block)=some k→L9[i].2.1.map (·.block)=some k∨(w4).heap.size≤k)),(33,eqp (.pointer (some ⟨gQ,0+i*4,none⟩))),(34,eqp _)] (fun w'=>ai w4 w') (fun w'=>(w4).grownBy w' (L9[i].2.1.map (·.block))) (by repeat first | exact cl | refine ck ?_ | refine bM ?_) (by kernel_rfl) (by kernel_rfl) (by kernel_rfl) ⟨ah _,ah _,ah _,ah _,ah _,ah _,ah _,ah _,ah _,(fun _ _ _ hF ⟨A2,c2,h1,h2,h3⟩=>⟨A2,c2,h1,h2.kept_from hF,h3⟩),ah _,ah _,trivial⟩ (ai.rfl_.d1) (ai.rfl_.d1.grown _) (fun _ _ hF h=>h.next hF) (fun _ _ hF h=>dk h (hF.grown _))
   case hop=>
    constructor
    ·rintro-w7 hG7;exact aq (aB (v:=.pointer _) rfl) rfl
    constructor
    ·rintro-w8 hG8;rintro _ rfl;exact aq (av rfl) rfl
    constructor
    ·rintro-w9 hG9;rintro _ rfl;exact aq (aa az rfl) rfl
    constructor
    ·rintro-w10 hG10;rintro _ rfl;exact aq (aa bH rfl) rfl
    constructor
    ·rintro-w11 hG11;rintro _ rfl;exact aq (au du rfl (show _=some (Value.slice (some ⟨gQ,0,none⟩) n Qc) from hrQ _ hG11)) rfl
    constructor
    ·rintro-w12 hG12;exact aq (aB (v:=.int _ _) rfl) rfl
    constructor
    ·rintro-w13 D13;exact aq (aa ef rfl) rfl
    constructor
    ·rintro-w14 D14;rintro _ rfl;exact aq (au aR rfl (show _=some (Value.slice L9[i].2.1 L9[i].1.acks.length L9[i].2.2) from (P2b.from_ D14).rd 3 rfl)) rfl
    constructor
    ·rintro-w15 D15;exact aq (aB (v:=.int _ _) rfl) rfl
    constructor
    ·intro h;cases h
    constructor
    ·rintro-w17 hG17;rintro v17_27 rfl v17_28 rfl;exact aq (bN eT rfl rfl (by omega)) rfl
    constructor
    ·rintro-w18 hG18;rintro v18_33 rfl;exact aq (aa ef rfl) rfl
    exact trivial
   case hmu=>
    rintro w19 D19;rintro v19_30 rfl _ rfl;show tp ..;refine y9 sK (yJ L9[i].2.1 L9[i].2.2 L9[i].1.acks id _ (hkO.kept_from D19) hac.1 (by omega)) ?_;rintro v w3 ⟨⟨A2,c2,rfl,ho3,hl3⟩,hg3⟩;exact ⟨dk (D19.grown _) hg3,⟨A2,c2,rfl,ho3,fun k hk=>(hl3 k hk).imp (fun e=>e) fun e=>Nat.le_trans D19.size e⟩,fun t u ht h=>mi (by repeat first | exact trivial | refine ⟨.inl rfl,?_⟩ | refine ⟨.inr (fun _ h=>h),?_⟩) t u ht h⟩
   case hend=>
    rintro w20 hG20;rintro _ rfl _ rfl _ rfl _ rfl v27 rfl v28 rfl _ rfl v30 rfl _ rfl v32 ⟨A32,c32,rfl,ho32,hL32⟩ v33 rfl _ rfl;show St ..;have hgD:=hG20;have hCA:Chg (fun q=>tg q=1001+2*i) _ w20:=Chg.of_grown hgD (fun q hq=>(hs3.f.k i hkL (by omega)).2 q hq);have hqo3:=ew (hs3.f.q (by decide)).1 hCA (fun k hk e=>by have:=(hs3.f.q (by decide)).2 k hk;omega);refine lz (xs:=L9.flatMap rdV) cV rfl rfl rfl (show World.ownsRow _ 0 54 4 (.slice (some ⟨gQ,0,none⟩) L9.length Qc) L9.length _ from hqo3) (by omega) ?_;intro w21 O4 P4;have hst:=aQ.ack1 h3 hs3 hkL hCA (x:=({ L9[i].1 with acks:=dM L9[i].1.acks id },A32,c32)) rfl ho32 hL32 rfl O4 (by rw [←tH,←Nat.zero_add (i*4+3),←Nat.add_assoc];exact P4);obtain ⟨hs6,h6⟩:=hst;obtain ⟨L6,hL6⟩:∃ L6,L6=L9.set i ({ L9[i].1 with acks:=dM L9[i].1.acks id },A32,c32):=⟨_,rfl⟩;have hl6:L6.length=n:=by rw [hL6,List.length_set];exact hl9
    have hm6:(L9.set i ({ L9[i].1 with acks:=dM L9[i].1.acks id },A32,c32)).map (fun q=>q.1)=gr (gN id rn) s.reads (i+1):=by
     rw [List.map_set,hm9,←o4 hkr]
     congr 1
     rw [←h19];unfold gN;rw [if_pos hle]
    rw [hm6] at hs6 h6;obtain ⟨tg6,hs6⟩:∃ t,eX _ Z T g t ⟨({ s with reads:=gr (gN id rn) s.reads (i+1) }:Rf),out⟩ ⟨E,Ec,V,Vc,X,Xc,M,Mc,Sn,Sc,some ⟨gQ,0,none⟩,Qc,L6⟩ O oc L:=⟨_,by rw [hL6];exact hs6⟩;refine ak (bq (ag (af (ab (cF (b:=1) rfl rfl (by omega)) (mvi rfl (ak ?_))))));refine cG ((i+1,tg6,L6)) ⟨(by first | rfl | (refine bo ?_;omega)),trivial⟩ (by (iterate 48 refine bE rfl ?_);exact bX) ⟨?_,?_⟩
    ·exact ⟨by omega,hl6,h6.from_ ai.rfl_,hs6.from_ ai.rfl_⟩
    ·show n-(i+1)<n-i;omega
  have hsame:gr (gN id rn) s.reads (i+1)=gr (gN id rn) s.reads i:=qk hkr (by rw [←h19];unfold gN;rw [if_neg (by omega)]);obtain ⟨tg6,L6,hl6,h6,hs6⟩:∃ t l,List.length l=n∧aQ w0 Z w4 T g ⟨({ s with reads:=gr (gN id rn) s.reads (i+1) }:Rf),out⟩∧eX w4 Z T g t ⟨({ s with reads:=gr (gN id rn) s.reads (i+1) }:Rf),out⟩ ⟨E,Ec,V,Vc,X,Xc,M,Mc,Sn,Sc,some ⟨gQ,0,none⟩,Qc,l⟩ O oc L:=⟨tg,L9,hl9,by rw [hsame];exact h3.from_ ai.rfl_,by rw [hsame];exact hs3.from_ ai.rfl_⟩;refine aN (bq (ag (af (ab (cF (b:=1) rfl rfl (by omega)) (mvi rfl (ak ?_))))));refine cG ((i+1,tg6,L6)) ⟨(by first | rfl | (refine bo ?_;omega)),trivial⟩ (by (iterate 36 refine bE rfl ?_);exact bX) ⟨?_,?_⟩
  ·exact ⟨by omega,hl6,h6.from_ ai.rfl_,hs6.from_ ai.rfl_⟩
  ·show n-(i+1)<n-i;omega
 obtain rfl:i=n:=by omega
 refine cz (bk (bk (bW (cB (dN rfl ?_)))));have e9:gr (gN id rn) s.reads i=s.reads.map (gN id rn):=by rw [hn,hln];exact yy
 rw [e9] at h5;exact ⟨rfl,h5.from_ (ai.rfl_ (a:=w1))⟩
theorem aQ.rowX {w0 w w1 w2:World} {Z:Nat→Prop} {T g oc gQ k:Nat} {tag:Nat→Nat} {s:Rf} {out L:List Msg} {a:Ra} {O:Option Addr} {fq v:Int} (h:aQ w0 Z w T g ⟨s,out⟩) (hs:eX w Z T g tag ⟨s,out⟩ a O oc L) (hk:fq=(k:Int)+1) (hA:a.X=some ⟨gQ,0,none⟩) (hF:ai w w1) (hO:d_ gQ w1 w2)
 (hP:w2.ownsRow 0 3 1 (.slice (some ⟨gQ,0,none⟩) s.next.length a.Xc) s.next.length ((s.next.map iV).set k (iV v))):eX w2 Z T g (ez w.heap.size 2 tag) ⟨{ s with next:=bK s.next fq v },out⟩ a O oc L∧aQ w0 Z w2 T g ⟨{ s with next:=bK s.next fq v },out⟩:=by
 subst hk;have hn:=hs.f.x (by decide);have hg:tag gQ=2:=hn.2 gQ (by rw [hA];rfl);have hC:Chg (fun k=>tag k=2) w w2:=(ai.toChg hF).only hO hg;have e:bK s.next ((k:Int)+1) v=s.next.set k v:=qD _ _ _
 have hP':w2.ownsRow 0 3 1 (.slice a.X (bK s.next ((k:Int)+1) v).length a.Xc) (bK s.next ((k:Int)+1) v).length ((bK s.next ((k:Int)+1) v).map iV):=by
  rw [e,List.length_set,←mJ,hA];exact hP
 have hf:=cN.next (hs.f.but hC) (l:=bK s.next ((k:Int)+1) v) rfl hP' (fun q hq=>by rw [cA (dG hn.1 q hq)];exact hn.2 q hq)
 have hb:Blk w2 g T (rfV { s with next:=bK s.next ((k:Int)+1) v } a++[Value.slice O L.length oc]).toArray:=by
  have h9:=(hs.b.from_ hF).only hO (fun e=>by have:=hs.gc;rw [e,hg] at this;cases this);have e9:rfV { s with next:=bK s.next ((k:Int)+1) v } a=rfV s a:=by unfold rfV;simp only [cZ]
  rw [e9];exact h9
 exact h.put (a':=a) hs hC (.inl (by decide)) hf (Chg.rfl_ (U:=fun k=>k=g)) hb
theorem aQ.rowM {w0 w w1 w2:World} {Z:Nat→Prop} {T g oc gQ k:Nat} {tag:Nat→Nat} {s:Rf} {out L:List Msg} {a:Ra} {O:Option Addr} {fq v:Int} (h:aQ w0 Z w T g ⟨s,out⟩) (hs:eX w Z T g tag ⟨s,out⟩ a O oc L) (hk:fq=(k:Int)+1) (hA:a.M=some ⟨gQ,0,none⟩) (hF:ai w w1) (hO:d_ gQ w1 w2)
 (hP:w2.ownsRow 0 3 1 (.slice (some ⟨gQ,0,none⟩) s.mtch.length a.Mc) s.mtch.length ((s.mtch.map iV).set k (iV v))):eX w2 Z T g (ez w.heap.size 3 tag) ⟨{ s with mtch:=bK s.mtch fq v },out⟩ a O oc L∧aQ w0 Z w2 T g ⟨{ s with mtch:=bK s.mtch fq v },out⟩:=by
 subst hk;have hn:=hs.f.m (by decide);have hg:tag gQ=3:=hn.2 gQ (by rw [hA];rfl);have hC:Chg (fun k=>tag k=3) w w2:=(ai.toChg hF).only hO hg;have e:bK s.mtch ((k:Int)+1) v=s.mtch.set k v:=qD _ _ _
 have hP':w2.ownsRow 0 3 1 (.slice a.M (bK s.mtch ((k:Int)+1) v).length a.Mc) (bK s.mtch ((k:Int)+1) v).length ((bK s.mtch ((k:Int)+1) v).map iV):=by
  rw [e,List.length_set,←mJ,hA];exact hP
 have hf:=cN.mtch (hs.f.but hC) (l:=bK s.mtch ((k:Int)+1) v) rfl hP' (fun q hq=>by rw [cA (dG hn.1 q hq)];exact hn.2 q hq)
 have hb:Blk w2 g T (rfV { s with mtch:=bK s.mtch ((k:Int)+1) v } a++[Value.slice O L.length oc]).toArray:=by
  have h9:=(hs.b.from_ hF).only hO (fun e=>by have:=hs.gc;rw [e,hg] at this;cases this);have e9:rfV { s with mtch:=bK s.mtch ((k:Int)+1) v } a=rfV s a:=by unfold rfV;simp only [cZ]
  rw [e9];exact h9
 exact h.put (a':=a) hs hC (.inl (by decide)) hf (Chg.rfl_ (U:=fun k=>k=g)) hb
theorem aQ.rowS {w0 w w1 w2:World} {Z:Nat→Prop} {T g oc gQ k:Nat} {tag:Nat→Nat} {s:Rf} {out L:List Msg} {a:Ra} {O:Option Addr} {fq v:Int} (h:aQ w0 Z w T g ⟨s,out⟩) (hs:eX w Z T g tag ⟨s,out⟩ a O oc L) (hk:fq=(k:Int)+1) (hA:a.S=some ⟨gQ,0,none⟩) (hF:ai w w1) (hO:d_ gQ w1 w2)
 (hP:w2.ownsRow 0 3 1 (.slice (some ⟨gQ,0,none⟩) s.sent.length a.Sc) s.sent.length ((s.sent.map iV).set k (iV v))):eX w2 Z T g (ez w.heap.size 4 tag) ⟨{ s with sent:=bK s.sent fq v },out⟩ a O oc L∧aQ w0 Z w2 T g ⟨{ s with sent:=bK s.sent fq v },out⟩:=by
 subst hk;have hn:=hs.f.n (by decide);have hg:tag gQ=4:=hn.2 gQ (by rw [hA];rfl);have hC:Chg (fun k=>tag k=4) w w2:=(ai.toChg hF).only hO hg;have e:bK s.sent ((k:Int)+1) v=s.sent.set k v:=qD _ _ _
 have hP':w2.ownsRow 0 3 1 (.slice a.S (bK s.sent ((k:Int)+1) v).length a.Sc) (bK s.sent ((k:Int)+1) v).length ((bK s.sent ((k:Int)+1) v).map iV):=by
  rw [e,List.length_set,←mJ,hA];exact hP
 have hf:=cN.sent (hs.f.but hC) (l:=bK s.sent ((k:Int)+1) v) rfl hP' (fun q hq=>by rw [cA (dG hn.1 q hq)];exact hn.2 q hq)
 have hb:Blk w2 g T (rfV { s with sent:=bK s.sent ((k:Int)+1) v } a++[Value.slice O L.length oc]).toArray:=by
  have h9:=(hs.b.from_ hF).only hO (fun e=>by have:=hs.gc;rw [e,hg] at this;cases this);have e9:rfV { s with sent:=bK s.sent ((k:Int)+1) v } a=rfV s a:=by unfold rfV;simp only [cZ]
  rw [e9];exact h9
 exact h.put (a':=a) hs hC (.inl (by decide)) hf (Chg.rfl_ (U:=fun k=>k=g)) hb
theorem gU {w:World} {q c k:Nat} {l:List Int} {v:Int} (ho:w.ownsRow 0 3 1 (.slice (some ⟨q,0,none⟩) l.length c) l.length (l.map iV)) (hk:k<l.length) (hv:l[k]=v):w.cell? ⟨q,k,none⟩=some (.int .i64 v):=by
 subst hv;exact gk (l:=l) ho k hk
theorem mf {l:List Int} {fq v:Int} {k:Nat} (hk:fq=(k:Int)+1) (h:k<(bK l fq v).length):(bK l fq v)[k]=v:=by
 subst hk;simp only [qD,List.getElem_set_self]
theorem mw {l:List Int} {fq:Int} {k:Nat} (hk:fq=(k:Int)+1) (h:k<l.length):at1 l fq=l[k]:=by
 subst hk;exact oY h
def iX (s:Rf) (m:Msg):Sp:=if m.ix=s.b∧at1 s.next m.f≤s.b∧m.a≤(s.snap.size:Int) then Sp.send ⟨{ s with sent:=bK s.sent m.f m.a },[]⟩ m.f else ⟨s,[]⟩
theorem tw {s:Rf} {m:Msg} (h:s.role≠2):gj s m=⟨s,[]⟩:=by
 unfold gj;rw [if_pos h]
theorem nW {s:Rf} {m:Msg} (h:s.role=2) (hk:m.k=6):gj s m=iX (js s m.f m.rd) m:=by
 unfold gj iX;rw [if_neg (fun e=>e h)];simp only;rw [if_pos hk]
theorem wC {s:Rf} {m:Msg} (h:s.role=2) (hk:m.k=4) (ho:m.ok=false):gj s m=Sp.send ⟨{ js s m.f m.rd with next:=bK s.next m.f (max (min (at1 s.next m.f-1) (m.ix+1)) (at1 s.mtch m.f+1)),sent:=bK s.sent m.f 0 },[]⟩ m.f:=by
 unfold gj;rw [if_neg (fun e=>e h)];simp only;rw [if_neg (by omega),if_pos ho];rfl
theorem wD {s:Rf} {m:Msg} (h:s.role=2) (hk:m.k=4) (ho:m.ok=true) (hi:bd s<m.ix):gj s m=⟨js s m.f m.rd,[]⟩:=by
 unfold gj;rw [if_neg (fun e=>e h)];simp only;rw [if_neg (by omega),if_neg (by rw [ho];decide),if_neg (by show ¬ m.ix≤bd s;omega)]
def tx (s:Rf) (m:Msg):Rf:=cn { s with mtch:=bK s.mtch m.f (max (at1 s.mtch m.f) m.ix),next:=bK s.next m.f (max (at1 s.mtch m.f) m.ix+1),sent:=bK s.sent m.f 0 }
theorem qx {s:Rf} {m:Msg} (h:s.role=2) (hk:m.k=4) (ho:m.ok=true) (hi:m.ix≤bd s):gj s m=if max (at1 s.mtch m.f) m.ix+1≤bd s then Sp.send ⟨tx (js s m.f m.rd) m,[]⟩ m.f else ⟨tx (js s m.f m.rd) m,[]⟩:=by
 unfold gj tx;rw [if_neg (fun e=>e h)];simp only;rw [if_neg (by omega),if_neg (by rw [ho];decide),if_pos (show m.ix≤bd (js s m.f m.rd) from hi)];rfl
theorem rE (w0:World) (Z:Nat→Prop) (T g:Nat) (s:Rf) (m:Msg) (w:World) (h:aQ w0 Z w T g ⟨s,[]⟩) (hF:RfF s) (hr1:s.role=2) (hf:1≤m.f∧m.f≤s.nodes) (hma0:0≤m.a) :
 Rt prog 150 [.pointer (some ⟨g,0,none⟩),.agg (bC m).toArray] w (fun v w'=>v=.tuple #[]∧aQ w0 Z w' T g (iX s m)):=by
 obtain ⟨k,hk⟩:∃ k:Nat,m.f=(k:Int)+1:=⟨(m.f-1).toNat,by omega⟩;refine enter (n:=63) Tryz.func150 rfl rfl rfl (an (af (bQ (v:=.agg _) rfl ?_)));intro b3 w1 E3 hb3 hk3;obtain ⟨wm,hwm⟩:∃ x,x=w1:=⟨_,rfl⟩
 have h3a:=h.at_ (Z':=fun k=>Z k∨k=b3) E3 (fun k hk=>by
  rcases hk with e | e
  ·exact ⟨Nat.lt_of_lt_of_le (h.zw k e) E3.size,.inl e⟩
  ·subst e;exact ⟨hk3.lt,.inr (by omega)⟩)
 obtain ⟨Z7,hZ7⟩:∃ Z7,Z7=fun k=>Z k∨k=b3:=⟨_,rfl⟩
 have h3:aQ wm Z7 w1 T g ⟨s,[]⟩:=by
  rw [hZ7,hwm];exact h3a
 have hzi:∀ k,Z k→Z7 k:=fun k hk=>by rw [hZ7];exact .inl hk
 have hzb:Z7 b3:=by rw [hZ7];exact .inr rfl
 have hE3:ai w wm:=by rw [hwm];exact E3
 have hm9:Blk wm b3 39 (bC m).toArray:=by rw [hwm];exact hk3
 have hm3:=h3.kept hzb hm9;obtain ⟨tag5,⟨E,Ec,V,Vc,X,Xc,M,Mc,Sn,Sc,Q,Qc,LL⟩,O,oc,L,hs5⟩:=h3.ex;have hll5:=hs5.m.l;have hXl:s.next.length=s.nodes.toNat:=by rw [hF.nx.1,dO hr1]
 have hMl:s.mtch.length=s.nodes.toNat:=by rw [hF.ma.1,dO hr1]
 have hSl:s.sent.length=s.nodes.toNat:=by rw [hF.se.1,dO hr1]
 have hkX:k<s.next.length:=by omega
 have hkM:k<s.mtch.length:=by omega
 have hkS:k<s.sent.length:=by omega
 have hnx:=hF.nx.2 _ (List.getElem_mem hkX);have hma:=hF.ma.2 _ (List.getElem_mem hkM);have hnn:=hF.n;have hbl:=hF.last;obtain ⟨gX,rfl⟩:∃ q,X=some ⟨q,0,none⟩:=c8 (n:=s.next.length) (hs5.f.x (by decide)).1 (by omega);obtain ⟨gSn,rfl⟩:∃ q,Sn=some ⟨q,0,none⟩:=c8 (n:=s.sent.length) (hs5.f.n (by decide)).1 (by omega);have hXr:World.ownsRow _ 0 3 1 (.slice (some ⟨gX,0,none⟩) s.next.length Xc) s.next.length (s.next.map iV):=(hs5.f.x (by decide)).1;have hXc:=gU hXr hkX rfl;have hat:=mw (l:=s.next) hk hkX
 have hT4:(m.ix≠s.b)∨(m.ix=s.b∧s.b<at1 s.next m.f)∨(m.ix=s.b∧at1 s.next m.f≤s.b∧(s.snap.size:Int)<m.a)∨(m.ix=s.b∧at1 s.next m.f≤s.b∧m.a≤(s.snap.size:Int)):=by
  have:∀ a b c d e:Int,(a≠b)∨(a=b∧b<c)∨(a=b∧c≤b∧d<e)∨(a=b∧c≤b∧e≤d):=fun a b c d e=>by omega
  exact this _ _ _ _ _
 refine ak (ag (an (an ?_)));rcases hT4 with ht | ht | ht | ht
 ·apply bD 43 [(4,eqp _),(5,eqp (.int .i64 m.ix)),(6,eqp _),(7,eqp _),(8,eqp _),(9,eqp _),(10,eqp _),(11,eqp _),(12,eqp (.int .i64 s.b)),(13,eqp _),(14,eqp _),(15,eqp _),(16,eqp _),(17,eqp _),(18,eqp _),(19,eqp _),(20,eqp _),(21,eqp _),(22,eqp _),(23,eqp _),(24,eqp _),(25,eqp _),(26,eqp _),(27,eqp _),(28,eqp _),(29,eqp _),(30,eqp _),(31,eqp _),(32,eqp _),(33,eqp _),(34,eqp _),(35,eqp _),(36,eqp _),(37,eqp _),(38,eqp _),(39,eqp _),(40,eqp _),(41,eqp _),(42,eqp _),(43,eqp _),(44,eqp _),(45,eqp _),(46,eqp _)] (by repeat first | exact cl | refine ck ?_ | refine bM ?_) (by kernel_rfl) (by kernel_rfl) ⟨ah _,ah _,ah _,ah _,ah _,ah _,ah _,ah _,ah _,ah _,ah _,ah _,ah _,ah _,ah _,ah _,ah _,ah _,ah _,ah _,ah _,ah _,ah _,ah _,ah _,ah _,ah _,ah _,ah _,ah _,ah _,ah _,ah _,ah _,ah _,ah _,ah _,ah _,ah _,ah _,ah _,ah _,ah _,trivial⟩
  case hop=>
   constructor
   ·rintro-w3 D3;exact aq (aa cI rfl) rfl
   constructor
   ·rintro-w4 D4;rintro _ rfl;exact aq (au ao rfl (by exact (show _=some (Value.int .i64 m.ix) from (hm3.from_ (ai.rfl_.next D4)).rd 4 rfl))) rfl
   constructor
   ·rintro-w5 D5;exact aq (aB (v:=.pointer _) rfl) rfl
   constructor
   ·rintro-w6 D6;rintro _ rfl;exact aq (av rfl) rfl
   constructor
   ·rintro-w7 D7;rintro _ rfl;exact aq (aa aF rfl) rfl
   constructor
   ·rintro-w8 D8;rintro _ rfl;exact aq (aa az rfl) rfl
   constructor
   ·rintro-w9 D9;rintro _ rfl;exact aq (aa bg rfl) rfl
   constructor
   ·rintro-w10 D10;rintro _ rfl;exact aq (aa bT rfl) rfl
   constructor
   ·rintro-w11 D11;rintro _ rfl;exact aq (au ao rfl (by exact (show _=some (Value.int .i64 s.b) from (h3.from_ (ai.rfl_.next D11)).rd (fun _=>rfl)))) rfl
   constructor
   ·rintro-w12 D12;rintro v12_5 rfl v12_12 rfl;exact aq (dd (de rfl rfl) (bne_iff_ne.2 (by omega))) rfl
   constructor
   ·rintro-w13 D13;rintro _ rfl;exact aq (aB (v:=.bool _) rfl) rfl
   constructor
   ·rintro-w14 D14;rintro _ rfl;exact bR rfl rfl rfl
   constructor
   ·rintro-w15 D15;rintro _ rfl _ rfl;exact bR rfl rfl rfl
   constructor
   ·rintro-w16 D16;rintro _ rfl _ rfl;exact bR rfl rfl rfl
   constructor
   ·rintro-w17 D17;rintro _ rfl _ rfl;exact bR rfl rfl rfl
   constructor
   ·rintro-w18 D18;rintro _ rfl _ rfl;exact bR rfl rfl rfl
   constructor
   ·rintro-w19 D19;rintro _ rfl _ rfl;exact bR rfl rfl rfl
   constructor
   ·rintro-w20 D20;rintro _ rfl;exact bR rfl rfl rfl
   constructor
   ·rintro-w21 D21;rintro _ rfl _ rfl;exact bR rfl rfl rfl
   constructor
   ·rintro-w22 D22;rintro _ rfl _ rfl;exact bR rfl rfl rfl
   constructor
   ·rintro-w23 D23;rintro _ rfl _ rfl _ rfl;exact bR rfl rfl rfl
   constructor
   ·rintro-w24 D24;rintro _ rfl _ rfl;exact bR rfl rfl rfl
   constructor
   ·rintro-w25 D25;rintro _ rfl;exact bR rfl rfl rfl
   constructor
   ·rintro-w26 D26;rintro _ rfl _ rfl;exact bR rfl rfl rfl
   constructor
   ·rintro-w27 D27;rintro _ rfl _ rfl;exact bR rfl rfl rfl
   constructor
   ·rintro-w28 D28;rintro _ rfl _ rfl;exact bR rfl rfl rfl
   constructor
   ·rintro-w29 D29;rintro _ rfl _ rfl;exact bR rfl rfl rfl
   constructor
   ·rintro-w30 D30;rintro _ rfl _ rfl;exact bR rfl rfl rfl
   constructor
   ·rintro-w31 D31;rintro _ rfl _ rfl;exact bR rfl rfl rfl
   constructor
   ·rintro-w32 D32;rintro _ rfl _ rfl _ rfl;exact bR rfl rfl rfl
   constructor
   ·rintro-w33 D33;rintro _ rfl _ rfl;exact aq (aL (v:=.bool _) rfl rfl) rfl
   constructor
   ·rintro-w34 D34;rintro _ rfl;exact aq (aB (v:=.bool _) rfl) rfl
   constructor
   ·rintro-w35 D35;rintro _ rfl;exact bR rfl rfl rfl
   constructor
   ·rintro-w36 D36;rintro _ rfl _ rfl;exact bR rfl rfl rfl
   constructor
   ·rintro-w37 D37;rintro _ rfl;exact bR rfl rfl rfl
   constructor
   ·rintro-w38 D38;rintro _ rfl _ rfl;exact bR rfl rfl rfl
   constructor
   ·rintro-w39 D39;rintro _ rfl _ rfl;exact bR rfl rfl rfl
   constructor
   ·rintro-w40 D40;rintro _ rfl _ rfl;exact bR rfl rfl rfl
   constructor
   ·rintro-w41 D41;rintro _ rfl _ rfl;exact bR rfl rfl rfl
   constructor
   ·rintro-w42 D42;rintro _ rfl _ rfl;exact bR rfl rfl rfl
   constructor
   ·rintro-w43 D43;rintro _ rfl _ rfl;exact bR rfl rfl rfl
   constructor
   ·rintro-w44 D44;rintro _ rfl _ rfl _ rfl;exact bR rfl rfl rfl
   constructor
   ·rintro-w45 D45;rintro _ rfl _ rfl;exact aq (aL (v:=.bool _) rfl rfl) rfl
   exact trivial
  case hend=>
   intro w46 D46;rintro _ rfl v5 rfl _ rfl _ rfl _ rfl _ rfl _ rfl _ rfl v12 rfl _ rfl _ rfl _ rfl _ rfl _ rfl _ rfl _ rfl _ rfl _ rfl _ rfl _ rfl _ rfl _ rfl _ rfl _ rfl _ rfl _ rfl _ rfl _ rfl _ rfl _ rfl _ rfl _ rfl _ rfl _ rfl _ rfl _ rfl _ rfl _ rfl _ rfl _ rfl _ rfl _ rfl _ rfl;show St ..;refine ak (ag (a_ rfl (aE (aG (dN rfl ?_)))));unfold iX
   first
    |(rw [if_pos ⟨ht.1,ht.2.1,ht.2.2⟩];exact ⟨rfl,h.back hE3 (h8.from_ (ai.rfl_.next D46)) hzi⟩)
    |(rw [if_neg (by omega)];exact ⟨rfl,h.back hE3 (h3.from_ (ai.rfl_.next D46)) hzi⟩)
 ·apply bD 43 [(4,eqp _),(5,eqp (.int .i64 m.ix)),(6,eqp _),(7,eqp _),(8,eqp _),(9,eqp _),(10,eqp _),(11,eqp _),(12,eqp (.int .i64 s.b)),(13,eqp _),(14,eqp _),(15,eqp _),(16,eqp _),(17,eqp _),(18,eqp _),(19,eqp _),(20,eqp (.slice (some ⟨gX,0,none⟩) s.next.length Xc)),(21,eqp _),(22,eqp _),(23,eqp (.int .i64 (k:Nat))),(24,eqp _),(25,eqp (.int .i64 s.next[k])),(26,eqp _),(27,eqp _),(28,eqp _),(29,eqp _),(30,eqp _),(31,eqp _),(32,eqp (.int .i64 s.b)),(33,eqp _),(34,eqp _),(35,eqp _),(36,eqp _),(37,eqp _),(38,eqp _),(39,eqp _),(40,eqp _),(41,eqp _),(42,eqp _),(43,eqp _),(44,eqp _),(45,eqp _),(46,eqp _)] (by repeat first | exact cl | refine ck ?_ | refine bM ?_) (by kernel_rfl) (by kernel_rfl) ⟨ah _,ah _,ah _,ah _,ah _,ah _,ah _,ah _,ah _,ah _,ah _,ah _,ah _,ah _,ah _,ah _,ah _,ah _,ah _,ah _,ah _,ah _,ah _,ah _,ah _,ah _,ah _,ah _,ah _,ah _,ah _,ah _,ah _,ah _,ah _,ah _,ah _,ah _,ah _,ah _,ah _,ah _,ah _,trivial⟩
  case hop=>
   constructor
   ·rintro-w48 D48;exact aq (aa cI rfl) rfl
   constructor
   ·rintro-w49 D49;rintro _ rfl;exact aq (au ao rfl (by exact (show _=some (Value.int .i64 m.ix) from (hm3.from_ (ai.rfl_.next D49)).rd 4 rfl))) rfl
   constructor
   ·rintro-w50 D50;exact aq (aB (v:=.pointer _) rfl) rfl
   constructor
   ·rintro-w51 D51;rintro _ rfl;exact aq (av rfl) rfl
   constructor
   ·rintro-w52 D52;rintro _ rfl;exact aq (aa aF rfl) rfl
   constructor
   ·rintro-w53 D53;rintro _ rfl;exact aq (aa az rfl) rfl
   constructor
   ·rintro-w54 D54;rintro _ rfl;exact aq (aa bg rfl) rfl
   constructor
   ·rintro-w55 D55;rintro _ rfl;exact aq (aa bT rfl) rfl
   constructor
   ·rintro-w56 D56;rintro _ rfl;exact aq (au ao rfl (by exact (show _=some (Value.int .i64 s.b) from (h3.from_ (ai.rfl_.next D56)).rd (fun _=>rfl)))) rfl
   constructor
   ·rintro-w57 D57;rintro v57_5 rfl v57_12 rfl;exact aq (bY (de rfl rfl) (by rw [bne_eq_false_iff_eq];omega)) rfl
   constructor
   ·rintro-w58 D58;rintro _ rfl;exact aq (aB (v:=.bool _) rfl) rfl
   constructor
   ·rintro-w59 D59;rintro _ rfl;exact aH rfl (aB (v:=.pointer _) rfl) rfl
   constructor
   ·rintro-w60 D60;rintro _ rfl _ rfl;exact aH rfl (av rfl) rfl
   constructor
   ·rintro-w61 D61;rintro _ rfl _ rfl;exact aH rfl (aa aF rfl) rfl
   constructor
   ·rintro-w62 D62;rintro _ rfl _ rfl;exact aH rfl (aa az rfl) rfl
   constructor
   ·rintro-w63 D63;rintro _ rfl _ rfl;exact aH rfl (aa bw rfl) rfl
   constructor
   ·rintro-w64 D64;rintro _ rfl _ rfl;exact aH rfl (au aR rfl (by exact (show _=some (Value.slice (some ⟨gX,0,none⟩) s.next.length Xc) from ch (hs5.b.from_ (ai.rfl_.next D64)) 15 rfl))) rfl
   constructor
   ·rintro-w65 D65;rintro _ rfl;exact aH rfl (aa br rfl) rfl
   constructor
   ·rintro-w66 D66;rintro _ rfl _ rfl;exact aH rfl (au ao rfl (by exact (show _=some (Value.int .i64 m.f) from (hm3.from_ (ai.rfl_.next D66)).rd 1 rfl))) rfl
   constructor
   ·rintro-w67 D67;rintro _ rfl _ rfl;exact aH rfl (eI (cY rfl rfl (by omega)) (bo (by omega))) rfl
   constructor
   ·rintro-w68 D68;rintro _ rfl v68_20 rfl v68_23 rfl;exact aH rfl (bp aV rfl rfl (by omega)) rfl
   constructor
   ·rintro-w69 D69;rintro _ rfl _ rfl;exact aH rfl (au ao rfl (by exact dg (ai.rfl_.next D69) hXc)) rfl
   constructor
   ·rintro-w70 D70;rintro _ rfl;exact aH rfl (aB (v:=.pointer _) rfl) rfl
   constructor
   ·rintro-w71 D71;rintro _ rfl _ rfl;exact aH rfl (av rfl) rfl
   constructor
   ·rintro-w72 D72;rintro _ rfl _ rfl;exact aH rfl (aa aF rfl) rfl
   constructor
   ·rintro-w73 D73;rintro _ rfl _ rfl;exact aH rfl (aa az rfl) rfl
   constructor
   ·rintro-w74 D74;rintro _ rfl _ rfl;exact aH rfl (aa bg rfl) rfl
   constructor
   ·rintro-w75 D75;rintro _ rfl _ rfl;exact aH rfl (aa bT rfl) rfl
   constructor
   ·rintro-w76 D76;rintro _ rfl _ rfl;exact aH rfl (au ao rfl (by exact (show _=some (Value.int .i64 s.b) from (h3.from_ (ai.rfl_.next D76)).rd (fun _=>rfl)))) rfl
   constructor
   ·rintro-w77 D77;rintro _ rfl v77_25 rfl v77_32 rfl;exact aH rfl (dd (cy rfl rfl) (decide_eq_true (by omega))) rfl
   constructor
   ·rintro-w78 D78;rintro _ rfl _ rfl;exact aq (ay (v:=.bool _) rfl rfl) rfl
   constructor
   ·rintro-w79 D79;rintro _ rfl;exact aq (aB (v:=.bool _) rfl) rfl
   constructor
   ·rintro-w80 D80;rintro _ rfl;exact bR rfl rfl rfl
   constructor
   ·rintro-w81 D81;rintro _ rfl _ rfl;exact bR rfl rfl rfl
   constructor
   ·rintro-w82 D82;rintro _ rfl;exact bR rfl rfl rfl
   constructor
   ·rintro-w83 D83;rintro _ rfl _ rfl;exact bR rfl rfl rfl
   constructor
   ·rintro-w84 D84;rintro _ rfl _ rfl;exact bR rfl rfl rfl
   constructor
   ·rintro-w85 D85;rintro _ rfl _ rfl;exact bR rfl rfl rfl
   constructor
   ·rintro-w86 D86;rintro _ rfl _ rfl;exact bR rfl rfl rfl
   constructor
   ·rintro-w87 D87;rintro _ rfl _ rfl;exact bR rfl rfl rfl
   constructor
   ·rintro-w88 D88;rintro _ rfl _ rfl;exact bR rfl rfl rfl
   constructor
   ·rintro-w89 D89;rintro _ rfl _ rfl _ rfl;exact bR rfl rfl rfl
   constructor
   ·rintro-w90 D90;rintro _ rfl _ rfl;exact aq (aL (v:=.bool _) rfl rfl) rfl
   exact trivial
  case hend=>
   intro w91 D91;rintro _ rfl v5 rfl _ rfl _ rfl _ rfl _ rfl _ rfl _ rfl v12 rfl _ rfl _ rfl _ rfl _ rfl _ rfl _ rfl _ rfl v20 rfl _ rfl _ rfl v23 rfl _ rfl v25 rfl _ rfl _ rfl _ rfl _ rfl _ rfl _ rfl v32 rfl _ rfl _ rfl _ rfl _ rfl _ rfl _ rfl _ rfl _ rfl _ rfl _ rfl _ rfl _ rfl _ rfl _ rfl;show St ..;refine ak (ag (a_ rfl (aE (aG (dN rfl ?_)))));unfold iX
   first
    |(rw [if_pos ⟨ht.1,ht.2.1,ht.2.2⟩];exact ⟨rfl,h.back hE3 (h8.from_ (ai.rfl_.next D91)) hzi⟩)
    |(rw [if_neg (by omega)];exact ⟨rfl,h.back hE3 (h3.from_ (ai.rfl_.next D91)) hzi⟩)
 ·apply bD 43 [(4,eqp _),(5,eqp (.int .i64 m.ix)),(6,eqp _),(7,eqp _),(8,eqp _),(9,eqp _),(10,eqp _),(11,eqp _),(12,eqp (.int .i64 s.b)),(13,eqp _),(14,eqp _),(15,eqp _),(16,eqp _),(17,eqp _),(18,eqp _),(19,eqp _),(20,eqp (.slice (some ⟨gX,0,none⟩) s.next.length Xc)),(21,eqp _),(22,eqp _),(23,eqp (.int .i64 (k:Nat))),(24,eqp _),(25,eqp (.int .i64 s.next[k])),(26,eqp _),(27,eqp _),(28,eqp _),(29,eqp _),(30,eqp _),(31,eqp _),(32,eqp (.int .i64 s.b)),(33,eqp _),(34,eqp _),(35,eqp _),(36,eqp _),(37,eqp (.int .i64 m.a)),(38,eqp _),(39,eqp _),(40,eqp _),(41,eqp _),(42,eqp _),(43,eqp (.string s.snap)),(44,eqp _),(45,eqp _),(46,eqp _)] (by repeat first | exact cl | refine ck ?_ | refine bM ?_) (by kernel_rfl) (by kernel_rfl) ⟨ah _,ah _,ah _,ah _,ah _,ah _,ah _,ah _,ah _,ah _,ah _,ah _,ah _,ah _,ah _,ah _,ah _,ah _,ah _,ah _,ah _,ah _,ah _,ah _,ah _,ah _,ah _,ah _,ah _,ah _,ah _,ah _,ah _,ah _,ah _,ah _,ah _,ah _,ah _,ah _,ah _,ah _,ah _,trivial⟩
  case hop=>
   constructor
   ·rintro-w93 D93;exact aq (aa cI rfl) rfl
   constructor
   ·rintro-w94 D94;rintro _ rfl;exact aq (au ao rfl (by exact (show _=some (Value.int .i64 m.ix) from (hm3.from_ (ai.rfl_.next D94)).rd 4 rfl))) rfl
   constructor
   ·rintro-w95 D95;exact aq (aB (v:=.pointer _) rfl) rfl
   constructor
   ·rintro-w96 D96;rintro _ rfl;exact aq (av rfl) rfl
   constructor
   ·rintro-w97 D97;rintro _ rfl;exact aq (aa aF rfl) rfl
   constructor
   ·rintro-w98 D98;rintro _ rfl;exact aq (aa az rfl) rfl
   constructor
   ·rintro-w99 D99;rintro _ rfl;exact aq (aa bg rfl) rfl
   constructor
   ·rintro-w100 D100;rintro _ rfl;exact aq (aa bT rfl) rfl
   constructor
   ·rintro-w101 D101;rintro _ rfl;exact aq (au ao rfl (by exact (show _=some (Value.int .i64 s.b) from (h3.from_ (ai.rfl_.next D101)).rd (fun _=>rfl)))) rfl
   constructor
   ·rintro-w102 D102;rintro v102_5 rfl v102_12 rfl;exact aq (bY (de rfl rfl) (by rw [bne_eq_false_iff_eq];omega)) rfl
   constructor
   ·rintro-w103 D103;rintro _ rfl;exact aq (aB (v:=.bool _) rfl) rfl
   constructor
   ·rintro-w104 D104;rintro _ rfl;exact aH rfl (aB (v:=.pointer _) rfl) rfl
   constructor
   ·rintro-w105 D105;rintro _ rfl _ rfl;exact aH rfl (av rfl) rfl
   constructor
   ·rintro-w106 D106;rintro _ rfl _ rfl;exact aH rfl (aa aF rfl) rfl
   constructor
   ·rintro-w107 D107;rintro _ rfl _ rfl;exact aH rfl (aa az rfl) rfl
   constructor
   ·rintro-w108 D108;rintro _ rfl _ rfl;exact aH rfl (aa bw rfl) rfl
   constructor
   ·rintro-w109 D109;rintro _ rfl _ rfl;exact aH rfl (au aR rfl (by exact (show _=some (Value.slice (some ⟨gX,0,none⟩) s.next.length Xc) from ch (hs5.b.from_ (ai.rfl_.next D109)) 15 rfl))) rfl
   constructor
   ·rintro-w110 D110;rintro _ rfl;exact aH rfl (aa br rfl) rfl
   constructor
   ·rintro-w111 D111;rintro _ rfl _ rfl;exact aH rfl (au ao rfl (by exact (show _=some (Value.int .i64 m.f) from (hm3.from_ (ai.rfl_.next D111)).rd 1 rfl))) rfl
   constructor
   ·rintro-w112 D112;rintro _ rfl _ rfl;exact aH rfl (eI (cY rfl rfl (by omega)) (bo (by omega))) rfl
   constructor
   ·rintro-w113 D113;rintro _ rfl v113_20 rfl v113_23 rfl;exact aH rfl (bp aV rfl rfl (by omega)) rfl
   constructor
   ·rintro-w114 D114;rintro _ rfl _ rfl;exact aH rfl (au ao rfl (by exact dg (ai.rfl_.next D114) hXc)) rfl
   constructor
   ·rintro-w115 D115;rintro _ rfl;exact aH rfl (aB (v:=.pointer _) rfl) rfl
   constructor
   ·rintro-w116 D116;rintro _ rfl _ rfl;exact aH rfl (av rfl) rfl
   constructor
   ·rintro-w117 D117;rintro _ rfl _ rfl;exact aH rfl (aa aF rfl) rfl
   constructor
   ·rintro-w118 D118;rintro _ rfl _ rfl;exact aH rfl (aa az rfl) rfl
   constructor
   ·rintro-w119 D119;rintro _ rfl _ rfl;exact aH rfl (aa bg rfl) rfl
   constructor
   ·rintro-w120 D120;rintro _ rfl _ rfl;exact aH rfl (aa bT rfl) rfl
   constructor
   ·rintro-w121 D121;rintro _ rfl _ rfl;exact aH rfl (au ao rfl (by exact (show _=some (Value.int .i64 s.b) from (h3.from_ (ai.rfl_.next D121)).rd (fun _=>rfl)))) rfl
   constructor
   ·rintro-w122 D122;rintro _ rfl v122_25 rfl v122_32 rfl;exact aH rfl (bY (cy rfl rfl) (decide_eq_false (by omega))) rfl
   constructor
   ·rintro-w123 D123;rintro _ rfl _ rfl;exact aq (ay (v:=.bool _) rfl rfl) rfl
   constructor
   ·rintro-w124 D124;rintro _ rfl;exact aq (aB (v:=.bool _) rfl) rfl
   constructor
   ·rintro-w125 D125;rintro _ rfl;exact aH rfl (aa da rfl) rfl
   constructor
   ·rintro-w126 D126;rintro _ rfl _ rfl;exact aH rfl (au ao rfl (by exact (show _=some (Value.int .i64 m.a) from (hm3.from_ (ai.rfl_.next D126)).rd 10 rfl))) rfl
   constructor
   ·rintro-w127 D127;rintro _ rfl;exact aH rfl (aB (v:=.pointer _) rfl) rfl
   constructor
   ·rintro-w128 D128;rintro _ rfl _ rfl;exact aH rfl (av rfl) rfl
   constructor
   ·rintro-w129 D129;rintro _ rfl _ rfl;exact aH rfl (aa aF rfl) rfl
   constructor
   ·rintro-w130 D130;rintro _ rfl _ rfl;exact aH rfl (aa az rfl) rfl
   constructor
   ·rintro-w131 D131;rintro _ rfl _ rfl;exact aH rfl (aa cO rfl) rfl
   constructor
   ·rintro-w132 D132;rintro _ rfl _ rfl;exact aH rfl (au cD rfl (by exact (show _=some (Value.string s.snap) from (h3.from_ (ai.rfl_.next D132)).rd (fun _=>rfl)))) rfl
   constructor
   ·rintro-w133 D133;rintro _ rfl v133_43 rfl;exact aH rfl (en (by kernel_rfl) rfl) rfl
   constructor
   ·rintro-w134 D134;rintro _ rfl v134_37 rfl _ rfl;exact aH rfl (dd (cy rfl rfl) (decide_eq_true (by omega))) rfl
   constructor
   ·rintro-w135 D135;rintro _ rfl _ rfl;exact aq (ay (v:=.bool _) rfl rfl) rfl
   exact trivial
  case hend=>
   intro w136 D136;rintro _ rfl v5 rfl _ rfl _ rfl _ rfl _ rfl _ rfl _ rfl v12 rfl _ rfl _ rfl _ rfl _ rfl _ rfl _ rfl _ rfl v20 rfl _ rfl _ rfl v23 rfl _ rfl v25 rfl _ rfl _ rfl _ rfl _ rfl _ rfl _ rfl v32 rfl _ rfl _ rfl _ rfl _ rfl v37 rfl _ rfl _ rfl _ rfl _ rfl _ rfl v43 rfl _ rfl _ rfl _ rfl;show St ..;refine ak (ag (a_ rfl (aE (aG (dN rfl ?_)))));unfold iX
   first
    |(rw [if_pos ⟨ht.1,ht.2.1,ht.2.2⟩];exact ⟨rfl,h.back hE3 (h8.from_ (ai.rfl_.next D136)) hzi⟩)
    |(rw [if_neg (by omega)];exact ⟨rfl,h.back hE3 (h3.from_ (ai.rfl_.next D136)) hzi⟩)
 apply bD 43 [(4,eqp _),(5,eqp (.int .i64 m.ix)),(6,eqp _),(7,eqp _),(8,eqp _),(9,eqp _),(10,eqp _),(11,eqp _),(12,eqp (.int .i64 s.b)),(13,eqp _),(14,eqp _),(15,eqp _),(16,eqp _),(17,eqp _),(18,eqp _),(19,eqp _),(20,eqp (.slice (some ⟨gX,0,none⟩) s.next.length Xc)),(21,eqp _),(22,eqp _),(23,eqp (.int .i64 (k:Nat))),(24,eqp _),(25,eqp (.int .i64 s.next[k])),(26,eqp _),(27,eqp _),(28,eqp _),(29,eqp _),(30,eqp _),(31,eqp _),(32,eqp (.int .i64 s.b)),(33,eqp _),(34,eqp _),(35,eqp _),(36,eqp _),(37,eqp (.int .i64 m.a)),(38,eqp _),(39,eqp _),(40,eqp _),(41,eqp _),(42,eqp _),(43,eqp (.string s.snap)),(44,eqp _),(45,eqp _),(46,eqp _)] (by repeat first | exact cl | refine ck ?_ | refine bM ?_) (by kernel_rfl) (by kernel_rfl) ⟨ah _,ah _,ah _,ah _,ah _,ah _,ah _,ah _,ah _,ah _,ah _,ah _,ah _,ah _,ah _,ah _,ah _,ah _,ah _,ah _,ah _,ah _,ah _,ah _,ah _,ah _,ah _,ah _,ah _,ah _,ah _,ah _,ah _,ah _,ah _,ah _,ah _,ah _,ah _,ah _,ah _,ah _,ah _,trivial⟩
 case hop=>
  constructor
  ·rintro-w138 D138;exact aq (aa cI rfl) rfl
  constructor
  ·rintro-w139 D139;rintro _ rfl;exact aq (au ao rfl (by exact (show _=some (Value.int .i64 m.ix) from (hm3.from_ (ai.rfl_.next D139)).rd 4 rfl))) rfl
  constructor
  ·rintro-w140 D140;exact aq (aB (v:=.pointer _) rfl) rfl
  constructor
  ·rintro-w141 D141;rintro _ rfl;exact aq (av rfl) rfl
  constructor
  ·rintro-w142 D142;rintro _ rfl;exact aq (aa aF rfl) rfl
  constructor
  ·rintro-w143 D143;rintro _ rfl;exact aq (aa az rfl) rfl
  constructor
  ·rintro-w144 D144;rintro _ rfl;exact aq (aa bg rfl) rfl
  constructor
  ·rintro-w145 D145;rintro _ rfl;exact aq (aa bT rfl) rfl
  constructor
  ·rintro-w146 D146;rintro _ rfl;exact aq (au ao rfl (by exact (show _=some (Value.int .i64 s.b) from (h3.from_ (ai.rfl_.next D146)).rd (fun _=>rfl)))) rfl
  constructor
  ·rintro-w147 D147;rintro v147_5 rfl v147_12 rfl;exact aq (bY (de rfl rfl) (by rw [bne_eq_false_iff_eq];omega)) rfl
  constructor
  ·rintro-w148 D148;rintro _ rfl;exact aq (aB (v:=.bool _) rfl) rfl
  constructor
  ·rintro-w149 D149;rintro _ rfl;exact aH rfl (aB (v:=.pointer _) rfl) rfl
  constructor
  ·rintro-w150 D150;rintro _ rfl _ rfl;exact aH rfl (av rfl) rfl
  constructor
  ·rintro-w151 D151;rintro _ rfl _ rfl;exact aH rfl (aa aF rfl) rfl
  constructor
  ·rintro-w152 D152;rintro _ rfl _ rfl;exact aH rfl (aa az rfl) rfl
  constructor
  ·rintro-w153 D153;rintro _ rfl _ rfl;exact aH rfl (aa bw rfl) rfl
  constructor
  ·rintro-w154 D154;rintro _ rfl _ rfl;exact aH rfl (au aR rfl (by exact (show _=some (Value.slice (some ⟨gX,0,none⟩) s.next.length Xc) from ch (hs5.b.from_ (ai.rfl_.next D154)) 15 rfl))) rfl
  constructor
  ·rintro-w155 D155;rintro _ rfl;exact aH rfl (aa br rfl) rfl
  constructor
  ·rintro-w156 D156;rintro _ rfl _ rfl;exact aH rfl (au ao rfl (by exact (show _=some (Value.int .i64 m.f) from (hm3.from_ (ai.rfl_.next D156)).rd 1 rfl))) rfl
  constructor
  ·rintro-w157 D157;rintro _ rfl _ rfl;exact aH rfl (eI (cY rfl rfl (by omega)) (bo (by omega))) rfl
  constructor
  ·rintro-w158 D158;rintro _ rfl v158_20 rfl v158_23 rfl;exact aH rfl (bp aV rfl rfl (by omega)) rfl
  constructor
  ·rintro-w159 D159;rintro _ rfl _ rfl;exact aH rfl (au ao rfl (by exact dg (ai.rfl_.next D159) hXc)) rfl
  constructor
  ·rintro-w160 D160;rintro _ rfl;exact aH rfl (aB (v:=.pointer _) rfl) rfl
  constructor
  ·rintro-w161 D161;rintro _ rfl _ rfl;exact aH rfl (av rfl) rfl
  constructor
  ·rintro-w162 D162;rintro _ rfl _ rfl;exact aH rfl (aa aF rfl) rfl
  constructor
  ·rintro-w163 D163;rintro _ rfl _ rfl;exact aH rfl (aa az rfl) rfl
  constructor
  ·rintro-w164 D164;rintro _ rfl _ rfl;exact aH rfl (aa bg rfl) rfl
  constructor
  ·rintro-w165 D165;rintro _ rfl _ rfl;exact aH rfl (aa bT rfl) rfl
  constructor
  ·rintro-w166 D166;rintro _ rfl _ rfl;exact aH rfl (au ao rfl (by exact (show _=some (Value.int .i64 s.b) from (h3.from_ (ai.rfl_.next D166)).rd (fun _=>rfl)))) rfl
  constructor
  ·rintro-w167 D167;rintro _ rfl v167_25 rfl v167_32 rfl;exact aH rfl (bY (cy rfl rfl) (decide_eq_false (by omega))) rfl
  constructor
  ·rintro-w168 D168;rintro _ rfl _ rfl;exact aq (ay (v:=.bool _) rfl rfl) rfl
  constructor
  ·rintro-w169 D169;rintro _ rfl;exact aq (aB (v:=.bool _) rfl) rfl
  constructor
  ·rintro-w170 D170;rintro _ rfl;exact aH rfl (aa da rfl) rfl
  constructor
  ·rintro-w171 D171;rintro _ rfl _ rfl;exact aH rfl (au ao rfl (by exact (show _=some (Value.int .i64 m.a) from (hm3.from_ (ai.rfl_.next D171)).rd 10 rfl))) rfl
  constructor
  ·rintro-w172 D172;rintro _ rfl;exact aH rfl (aB (v:=.pointer _) rfl) rfl
  constructor
  ·rintro-w173 D173;rintro _ rfl _ rfl;exact aH rfl (av rfl) rfl
  constructor
  ·rintro-w174 D174;rintro _ rfl _ rfl;exact aH rfl (aa aF rfl) rfl
  constructor
  ·rintro-w175 D175;rintro _ rfl _ rfl;exact aH rfl (aa az rfl) rfl
  constructor
  ·rintro-w176 D176;rintro _ rfl _ rfl;exact aH rfl (aa cO rfl) rfl
  constructor
  ·rintro-w177 D177;rintro _ rfl _ rfl;exact aH rfl (au cD rfl (by exact (show _=some (Value.string s.snap) from (h3.from_ (ai.rfl_.next D177)).rd (fun _=>rfl)))) rfl
  constructor
  ·rintro-w178 D178;rintro _ rfl v178_43 rfl;exact aH rfl (en (by kernel_rfl) rfl) rfl
  constructor
  ·rintro-w179 D179;rintro _ rfl v179_37 rfl _ rfl;exact aH rfl (bY (cy rfl rfl) (decide_eq_false (by omega))) rfl
  constructor
  ·rintro-w180 D180;rintro _ rfl _ rfl;exact aq (ay (v:=.bool _) rfl rfl) rfl
  exact trivial
 case hend=>
  intro w181 D181;rintro _ rfl v5 rfl _ rfl _ rfl _ rfl _ rfl _ rfl _ rfl v12 rfl _ rfl _ rfl _ rfl _ rfl _ rfl _ rfl _ rfl v20 rfl _ rfl _ rfl v23 rfl _ rfl v25 rfl _ rfl _ rfl _ rfl _ rfl _ rfl _ rfl v32 rfl _ rfl _ rfl _ rfl _ rfl v37 rfl _ rfl _ rfl _ rfl _ rfl _ rfl v43 rfl _ rfl _ rfl _ rfl;show St ..;refine ak (ag (bc rfl (aN (ag (an ?_)))));apply bD 12 [(47,eqp _),(48,eqp _),(49,eqp _),(50,eqp _),(51,eqp _),(52,eqp (.slice (some ⟨gSn,0,none⟩) s.sent.length Sc)),(53,eqp _),(54,eqp (.int .i64 m.f)),(55,eqp (.int .i64 (k:Nat))),(56,eqp _),(57,eqp (.int .i64 m.a)),(58,eqp _)] (by repeat first | exact cl | refine ck ?_ | refine bM ?_) (by kernel_rfl) (by kernel_rfl) ⟨ah _,ah _,ah _,ah _,ah _,ah _,ah _,ah _,ah _,ah _,ah _,ah _,trivial⟩
  case hop=>
   constructor
   ·rintro-w183 D183;exact aq (aB (v:=.pointer _) rfl) rfl
   constructor
   ·rintro-w184 D184;rintro _ rfl;exact aq (av rfl) rfl
   constructor
   ·rintro-w185 D185;rintro _ rfl;exact aq (aa aF rfl) rfl
   constructor
   ·rintro-w186 D186;rintro _ rfl;exact aq (aa az rfl) rfl
   constructor
   ·rintro-w187 D187;rintro _ rfl;exact aq (aa ct rfl) rfl
   constructor
   ·rintro-w188 D188;rintro _ rfl;exact aq (au aR rfl (by exact (show _=some (Value.slice (some ⟨gSn,0,none⟩) s.sent.length Sc) from ch (hs5.b.from_ ((ai.rfl_.next D181).next D188)) 17 rfl))) rfl
   constructor
   ·rintro-w189 D189;exact aq (aa br rfl) rfl
   constructor
   ·rintro-w190 D190;rintro _ rfl;exact aq (au ao rfl (by exact (show _=some (Value.int .i64 m.f) from (hm3.from_ ((ai.rfl_.next D181).next D190)).rd 1 rfl))) rfl
   constructor
   ·rintro-w191 D191;rintro v191_54 rfl;exact aq (eI (cY rfl rfl (by omega)) (bo (by omega))) rfl
   constructor
   ·rintro-w192 D192;exact aq (aa da rfl) rfl
   constructor
   ·rintro-w193 D193;rintro _ rfl;exact aq (au ao rfl (by exact (show _=some (Value.int .i64 m.a) from (hm3.from_ ((ai.rfl_.next D181).next D193)).rd 10 rfl))) rfl
   constructor
   ·rintro-w194 D194;rintro v194_52 rfl v194_55 rfl;exact aq (bp aV rfl rfl (by omega)) rfl
   exact trivial
  case hend=>
   intro w195 D195;rintro _ rfl _ rfl _ rfl _ rfl _ rfl v52 rfl _ rfl v54 rfl v55 rfl _ rfl v57 rfl _ rfl;show St ..;have hMq2:ai _ w195:=((ai.rfl_.next D181).next D195);refine eg (xs:=s.sent.map iV) bj rfl rfl rfl (show World.ownsRow _ 0 3 1 (.slice (some ⟨gSn,0,none⟩) s.sent.length _) s.sent.length _ from (hs5.f.n (by decide)).1.kept_from hMq2) (by show k<s.sent.length;omega) ?_;intro w196 Oq2 Pq2;obtain ⟨hs6,h6⟩:=aQ.rowS h3 hs5 hk rfl hMq2 Oq2 (v:=m.a) Pq2;refine ak (ag (af (mvp rfl (ab (aa br rfl) (ab (au ao rfl (by exact (show _=some (Value.int .i64 m.f) from ((h6.kept hzb hm9).from_ ai.rfl_).rd 1 rfl))) ?_)))));refine aC ke (nM wm Z7 T g ⟨({ s with sent:=bK s.sent m.f m.a }:Rf),[]⟩ _ (h6.from_ ai.rfl_) (hF.sentPut ⟨hma0,by omega⟩) hr1 (Nat.zero_le _) m.f hf) ?_;rintro v62 w197 ⟨rfl,h8⟩;refine ak (cB (dN rfl ?_));unfold iX
   first
    |(rw [if_pos ⟨ht.1,ht.2.1,ht.2.2⟩];exact ⟨rfl,h.back hE3 (h8.from_ ai.rfl_) hzi⟩)
    |(rw [if_neg (by omega)];exact ⟨rfl,h.back hE3 (h3.from_ ai.rfl_) hzi⟩)
theorem Ad (w0:World) (Z:Nat→Prop) (T g:Nat) (s:Rf) (m:Msg) (w:World) (h:aQ w0 Z w T g ⟨s,[]⟩) (hro:s.role≠2) :
 Rt prog 104 [.pointer (some ⟨g,0,none⟩),.agg (bC m).toArray] w (fun v w'=>v=.tuple #[]∧aQ w0 Z w' T g (gj s m)):=by
 refine enter (n:=129) Tryz.func104 rfl rfl rfl (an (af (bQ (v:=.agg _) rfl ?_)));intro b3 w1 E3 hb3 hk3;obtain ⟨wm,hwm⟩:∃ x,x=w1:=⟨_,rfl⟩
 have h3a:=h.at_ (Z':=fun k=>Z k∨k=b3) E3 (fun k hk=>by
  rcases hk with e | e
  ·exact ⟨Nat.lt_of_lt_of_le (h.zw k e) E3.size,.inl e⟩
  ·subst e;exact ⟨hk3.lt,.inr (by omega)⟩)
 obtain ⟨Z7,hZ7⟩:∃ Z7,Z7=fun k=>Z k∨k=b3:=⟨_,rfl⟩
 have h3:aQ wm Z7 w1 T g ⟨s,[]⟩:=by
  rw [hZ7,hwm];exact h3a
 have hzi:∀ k,Z k→Z7 k:=fun k hk=>by rw [hZ7];exact .inl hk
 have hzb:Z7 b3:=by rw [hZ7];exact .inr rfl
 have hE3:ai w wm:=by rw [hwm];exact E3
 have hm9:Blk wm b3 39 (bC m).toArray:=by rw [hwm];exact hk3
 have hm3:=h3.kept hzb hm9;refine ak (ag (an (an (af (mvp rfl (ab (av rfl) (ab (aa aF rfl) (ab (aa az rfl) (ab (aa cT rfl) (ab (au ao rfl (by exact (show _=some (Value.int .i64 s.role) from (h3.from_ ai.rfl_).rd (fun _=>rfl)))) ?_))))))))));refine ab (dd (de rfl rfl) (bne_iff_ne.2 hro)) (ak (ag (a_ rfl (aE (aG (dN rfl ?_))))));rw [tw hro];exact ⟨rfl,h.from_ (E3.next ai.rfl_)⟩
theorem zZ (w0:World) (Z:Nat→Prop) (T g:Nat) (s:Rf) (m:Msg) (w:World) (h:aQ w0 Z w T g ⟨s,[]⟩) (hF:RfF s) (hf:1≤m.f∧m.f≤s.nodes) (hro:s.role=2) (hk6:m.k=6) (hma0:0≤m.a) :
 Rt prog 104 [.pointer (some ⟨g,0,none⟩),.agg (bC m).toArray] w (fun v w'=>v=.tuple #[]∧aQ w0 Z w' T g (gj s m)):=by
 refine enter (n:=129) Tryz.func104 rfl rfl rfl (an (af (bQ (v:=.agg _) rfl ?_)));intro b3 w1 E3 hb3 hk3;obtain ⟨wm,hwm⟩:∃ x,x=w1:=⟨_,rfl⟩
 have h3a:=h.at_ (Z':=fun k=>Z k∨k=b3) E3 (fun k hk=>by
  rcases hk with e | e
  ·exact ⟨Nat.lt_of_lt_of_le (h.zw k e) E3.size,.inl e⟩
  ·subst e;exact ⟨hk3.lt,.inr (by omega)⟩)
 obtain ⟨Z7,hZ7⟩:∃ Z7,Z7=fun k=>Z k∨k=b3:=⟨_,rfl⟩
 have h3:aQ wm Z7 w1 T g ⟨s,[]⟩:=by
  rw [hZ7,hwm];exact h3a
 have hzi:∀ k,Z k→Z7 k:=fun k hk=>by rw [hZ7];exact .inl hk
 have hzb:Z7 b3:=by rw [hZ7];exact .inr rfl
 have hE3:ai w wm:=by rw [hwm];exact E3
 have hm9:Blk wm b3 39 (bC m).toArray:=by rw [hwm];exact hk3
 have hm3:=h3.kept hzb hm9;refine ak (ag (an (an (af (mvp rfl (ab (av rfl) (ab (aa aF rfl) (ab (aa az rfl) (ab (aa cT rfl) (ab (au ao rfl (by exact (show _=some (Value.int .i64 s.role) from (h3.from_ ai.rfl_).rd (fun _=>rfl)))) ?_))))))))));refine ab (bY (de rfl rfl) (by rw [hro];rfl)) ?_;refine ak (ag (bc rfl (aN (ag (an ?_)))));apply ig [(0,15,fun _ v _=>v=_),(1,16,fun _ v _=>v=_),(2,17,fun _ v _=>v=_),(3,18,fun _ v _=>v=_),(4,19,fun S v w9=>S 7=false→(eqp (.int .i64 m.f)) v w9),(5,20,fun _ v _=>v=_),(6,21,fun S v w9=>S 7=false→(eqp (.int .i64 m.rd)) v w9),(7,22,fun _ v _=>v=_)] [7] (fun S w'=>(S 7=false→ai w1 w')∧(S 7=true→aQ wm Z7 w' T g ⟨js s m.f m.rd,[]⟩)) (by kernel_rfl) (by kernel_rfl) rfl rfl ⟨fun _ _ _ _ _ _ _ h=>h,fun _ _ _ _ _ _ _ h=>h,fun _ _ _ _ _ _ _ h=>h,fun _ _ _ _ _ _ _ h=>h,fun S i v w1 w2 hq hF h h0=>(ah _) v w1 w2 hF (h (im h0)),fun _ _ _ _ _ _ _ h=>h,fun S i v w1 w2 hq hF h h0=>(ah _) v w1 w2 hF (h (im h0)),fun _ _ _ _ _ _ _ h=>h,trivial⟩ (fun S i w1 w2 hq hF h=>⟨fun h0=>(h.1 (im h0)).next hF,fun h1=>(fun h=>h.from_ hF) (h.2 (ll (show 7≠i by rintro rfl;exact absurd hq (by decide)) h1))⟩) ⟨fun _=>ai.rfl_.d1,fun h=>by cases h⟩
 case hstep=>
  constructor
  ·rintro S L' w2 hU hmo hme hI hM hC hS ⟨-⟩;have hS0:S 7=false:=(aj hC (j:=7) rfl (by kernel_rfl) (aj hC (j:=2) rfl (by kernel_rfl) (aj hC (j:=1) rfl (by kernel_rfl) hS)));have hM2:=hM.1 hS0;have e0:=hI.1 0 (dI rfl);exact aD [(0,_)] hU hmo hme hI hM (.head _) rfl rfl (by kernel_rfl) ⟨e0,trivial⟩ (aB (v:=.pointer _) rfl) ai.rfl_ (rfl)
  constructor
  ·rintro S L' w3 hU hmo hme hI hM hC hS ⟨d0,-⟩;have hS0:S 7=false:=(aj hC (j:=7) rfl (by kernel_rfl) (aj hC (j:=2) rfl (by kernel_rfl) hS));have hM3:=hM.1 hS0;obtain ⟨v3_15,e15,h15⟩:=hI.get (i:=0) (.head _) d0;obtain rfl:=h15;exact aD [(15,_)] hU hmo hme hI hM (.tail _ (.head _)) rfl rfl (by kernel_rfl) ⟨e15,trivial⟩ (av rfl) ai.rfl_ (rfl)
  constructor
  ·rintro S L' w4 hU hmo hme hI hM hC hS ⟨d1,-⟩;have hS0:S 7=false:=(aj hC (j:=7) rfl (by kernel_rfl) hS);have hM4:=hM.1 hS0;obtain ⟨v4_16,e16,h16⟩:=hI.get (i:=1) (.tail _ (.head _)) d1;obtain rfl:=h16;exact aD [(16,_)] hU hmo hme hI hM (gM 2 rfl) rfl rfl (by kernel_rfl) ⟨e16,trivial⟩ (aa aF rfl) ai.rfl_ (rfl)
  constructor
  ·rintro S L' w5 hU hmo hme hI hM hC hS ⟨-⟩;have hS0:S 7=false:=(aj hC (j:=7) rfl (by kernel_rfl) (aj hC (j:=4) rfl (by kernel_rfl) hS));have hM5:=hM.1 hS0;have e3:=hI.1 3 (dI rfl);exact aD [(3,_)] hU hmo hme hI hM (gM 3 rfl) rfl rfl (by kernel_rfl) ⟨e3,trivial⟩ (aa br rfl) ai.rfl_ (rfl)
  constructor
  ·rintro S L' w6 hU hmo hme hI hM hC hS ⟨d3,-⟩;have hS0:S 7=false:=(aj hC (j:=7) rfl (by kernel_rfl) hS);have hM6:=hM.1 hS0;obtain ⟨v6_18,e18,h18⟩:=hI.get (i:=3) (gM 3 rfl) d3;obtain rfl:=h18;exact aD [(18,_)] hU hmo hme hI hM (gM 4 rfl) rfl rfl (by kernel_rfl) ⟨e18,trivial⟩ (au ao rfl (by exact (show _=some (Value.int .i64 m.f) from (hm3.from_ (ai.rfl_.next hM6)).rd 1 rfl))) ai.rfl_ (fun _=>rfl)
  constructor
  ·rintro S L' w7 hU hmo hme hI hM hC hS ⟨-⟩;have hS0:S 7=false:=(aj hC (j:=7) rfl (by kernel_rfl) (aj hC (j:=6) rfl (by kernel_rfl) hS));have hM7:=hM.1 hS0;have e3:=hI.1 3 (dI rfl);exact aD [(3,_)] hU hmo hme hI hM (gM 5 rfl) rfl rfl (by kernel_rfl) ⟨e3,trivial⟩ (aa dA rfl) ai.rfl_ (rfl)
  constructor
  ·rintro S L' w8 hU hmo hme hI hM hC hS ⟨d5,-⟩;have hS0:S 7=false:=(aj hC (j:=7) rfl (by kernel_rfl) hS);have hM8:=hM.1 hS0;obtain ⟨v8_20,e20,h20⟩:=hI.get (i:=5) (gM 5 rfl) d5;obtain rfl:=h20;exact aD [(20,_)] hU hmo hme hI hM (gM 6 rfl) rfl rfl (by kernel_rfl) ⟨e20,trivial⟩ (au ao rfl (by exact (show _=some (Value.int .i64 m.rd) from (hm3.from_ (ai.rfl_.next hM8)).rd 7 rfl))) ai.rfl_ (fun _=>rfl)
  constructor
  ·rintro S L' w9 hU hmo hme hI hM hC hS ⟨d2,d4,d6,-⟩;have hS0:S 7=false:=hS;have hM9:=hM.1 hS0;obtain ⟨v9_17,e17,h17⟩:=hI.get (i:=2) (gM 2 rfl) d2;obtain rfl:=h17;obtain ⟨v9_19,e19,h19⟩:=hI.get (i:=4) (gM 4 rfl) d4;obtain rfl:=h19 hS0;obtain ⟨v9_21,e21,h21⟩:=hI.get (i:=6) (gM 6 rfl) d6;obtain rfl:=h21 hS0;refine fo (al:=[.tmp 17,.tmp 19,.tmp 21]) [(17,_),(19,_),(21,_)] hU hI (gM 7 rfl) (by kernel_rfl) ⟨e17,e19,e21,trivial⟩ jz ((qU wm Z7 T g s [] _ (h3.from_ (ai.rfl_.next hM9)) hF m.f m.rd).mono ?_);rintro v9 w2 ⟨rfl,hS2⟩;exact ⟨⟨fun h0=>(by rw [gL] at h0;cases h0),fun _=>hS2⟩,rfl,⟨fun _ _ _ h=>h,fun _ _ _ h=>h,fun _ _ _ h=>h,fun _ _ _ h=>h,fun _ _ _ _ h0=>(by rw [gL] at h0;cases h0),fun _ _ _ h=>h,fun _ _ _ _ h0=>(by rw [gL] at h0;cases h0),fun _ _ _ h=>h,trivial⟩⟩
  exact trivial
 case hend=>
  intro w10 hM;obtain hS9:=hM.2 rfl;rintro v10_15 rfl v10_16 rfl v10_17 rfl v10_18 rfl v10_19-v10_20 rfl v10_21-v10_22 rfl;refine fB (ag (an (an (af (ab (aa cw rfl) (ab (au ao rfl (by exact (show _=some (Value.int .i64 m.k) from ((hS9.kept hzb hm9).from_ ai.rfl_).rd 0 rfl))) ?_))))));refine ab (dd (bh rfl rfl) (beq_iff_eq.2 hk6)) (ak (ag (a_ rfl (an (af (mvp rfl (ab (aK (cs:=bC m) bn aZ rfl (((hS9.kept hzb hm9).from_ ai.rfl_).whole)) (aC sJ (rE wm Z7 T g (js s m.f m.rd) m _ (hS9.from_ ai.rfl_) (hF.ack hf) hro hf hma0) ?_))))))));rintro v28 w11 ⟨rfl,h6⟩;refine ak (ag (aE (aG (dN rfl ?_))));rw [nW hro hk6];exact ⟨rfl,h.back hE3 (h6.from_ ai.rfl_) hzi⟩
theorem Aa (w0:World) (Z:Nat→Prop) (T g:Nat) (s:Rf) (m:Msg) (w:World) (h:aQ w0 Z w T g ⟨s,[]⟩) (hF:RfF s) (hf:1≤m.f∧m.f≤s.nodes) (hro:s.role=2) (hk4:m.k=4) (hix:0≤m.ix∧m.ix≤1099511627775) (hok:m.ok=false) :
 Rt prog 104 [.pointer (some ⟨g,0,none⟩),.agg (bC m).toArray] w (fun v w'=>v=.tuple #[]∧aQ w0 Z w' T g (gj s m)):=by
 obtain ⟨k,hk⟩:∃ k:Nat,m.f=(k:Int)+1:=⟨(m.f-1).toNat,by omega⟩;refine enter (n:=129) Tryz.func104 rfl rfl rfl (an (af (bQ (v:=.agg _) rfl ?_)));intro b3 w1 E3 hb3 hk3;obtain ⟨wm,hwm⟩:∃ x,x=w1:=⟨_,rfl⟩
 have h3a:=h.at_ (Z':=fun k=>Z k∨k=b3) E3 (fun k hk=>by
  rcases hk with e | e
  ·exact ⟨Nat.lt_of_lt_of_le (h.zw k e) E3.size,.inl e⟩
  ·subst e;exact ⟨hk3.lt,.inr (by omega)⟩)
 obtain ⟨Z7,hZ7⟩:∃ Z7,Z7=fun k=>Z k∨k=b3:=⟨_,rfl⟩
 have h3:aQ wm Z7 w1 T g ⟨s,[]⟩:=by
  rw [hZ7,hwm];exact h3a
 have hzi:∀ k,Z k→Z7 k:=fun k hk=>by rw [hZ7];exact .inl hk
 have hzb:Z7 b3:=by rw [hZ7];exact .inr rfl
 have hE3:ai w wm:=by rw [hwm];exact E3
 have hm9:Blk wm b3 39 (bC m).toArray:=by rw [hwm];exact hk3
 have hm3:=h3.kept hzb hm9;refine ak (ag (an (an (af (mvp rfl (ab (av rfl) (ab (aa aF rfl) (ab (aa az rfl) (ab (aa cT rfl) (ab (au ao rfl (by exact (show _=some (Value.int .i64 s.role) from (h3.from_ ai.rfl_).rd (fun _=>rfl)))) ?_))))))))));refine ab (bY (de rfl rfl) (by rw [hro];rfl)) ?_;refine ak (ag (bc rfl (aN (ag (an ?_)))));apply ig [(0,15,fun _ v _=>v=_),(1,16,fun _ v _=>v=_),(2,17,fun _ v _=>v=_),(3,18,fun _ v _=>v=_),(4,19,fun S v w9=>S 7=false→(eqp (.int .i64 m.f)) v w9),(5,20,fun _ v _=>v=_),(6,21,fun S v w9=>S 7=false→(eqp (.int .i64 m.rd)) v w9),(7,22,fun _ v _=>v=_)] [7] (fun S w'=>(S 7=false→ai w1 w')∧(S 7=true→aQ wm Z7 w' T g ⟨js s m.f m.rd,[]⟩)) (by kernel_rfl) (by kernel_rfl) rfl rfl ⟨fun _ _ _ _ _ _ _ h=>h,fun _ _ _ _ _ _ _ h=>h,fun _ _ _ _ _ _ _ h=>h,fun _ _ _ _ _ _ _ h=>h,fun S i v w1 w2 hq hF h h0=>(ah _) v w1 w2 hF (h (im h0)),fun _ _ _ _ _ _ _ h=>h,fun S i v w1 w2 hq hF h h0=>(ah _) v w1 w2 hF (h (im h0)),fun _ _ _ _ _ _ _ h=>h,trivial⟩ (fun S i w1 w2 hq hF h=>⟨fun h0=>(h.1 (im h0)).next hF,fun h1=>(fun h=>h.from_ hF) (h.2 (ll (show 7≠i by rintro rfl;exact absurd hq (by decide)) h1))⟩) ⟨fun _=>ai.rfl_.d1,fun h=>by cases h⟩
 case hstep=>
  constructor
  ·rintro S L' w2 hU hmo hme hI hM hC hS ⟨-⟩;have hS0:S 7=false:=(aj hC (j:=7) rfl (by kernel_rfl) (aj hC (j:=2) rfl (by kernel_rfl) (aj hC (j:=1) rfl (by kernel_rfl) hS)));have hM2:=hM.1 hS0;have e0:=hI.1 0 (dI rfl);exact aD [(0,_)] hU hmo hme hI hM (.head _) rfl rfl (by kernel_rfl) ⟨e0,trivial⟩ (aB (v:=.pointer _) rfl) ai.rfl_ (rfl)
  constructor
  ·rintro S L' w3 hU hmo hme hI hM hC hS ⟨d0,-⟩;have hS0:S 7=false:=(aj hC (j:=7) rfl (by kernel_rfl) (aj hC (j:=2) rfl (by kernel_rfl) hS));have hM3:=hM.1 hS0;obtain ⟨v3_15,e15,h15⟩:=hI.get (i:=0) (.head _) d0;obtain rfl:=h15;exact aD [(15,_)] hU hmo hme hI hM (.tail _ (.head _)) rfl rfl (by kernel_rfl) ⟨e15,trivial⟩ (av rfl) ai.rfl_ (rfl)
  constructor
  ·rintro S L' w4 hU hmo hme hI hM hC hS ⟨d1,-⟩;have hS0:S 7=false:=(aj hC (j:=7) rfl (by kernel_rfl) hS);have hM4:=hM.1 hS0;obtain ⟨v4_16,e16,h16⟩:=hI.get (i:=1) (.tail _ (.head _)) d1;obtain rfl:=h16;exact aD [(16,_)] hU hmo hme hI hM (gM 2 rfl) rfl rfl (by kernel_rfl) ⟨e16,trivial⟩ (aa aF rfl) ai.rfl_ (rfl)
  constructor
  ·rintro S L' w5 hU hmo hme hI hM hC hS ⟨-⟩;have hS0:S 7=false:=(aj hC (j:=7) rfl (by kernel_rfl) (aj hC (j:=4) rfl (by kernel_rfl) hS));have hM5:=hM.1 hS0;have e3:=hI.1 3 (dI rfl);exact aD [(3,_)] hU hmo hme hI hM (gM 3 rfl) rfl rfl (by kernel_rfl) ⟨e3,trivial⟩ (aa br rfl) ai.rfl_ (rfl)
  constructor
  ·rintro S L' w6 hU hmo hme hI hM hC hS ⟨d3,-⟩;have hS0:S 7=false:=(aj hC (j:=7) rfl (by kernel_rfl) hS);have hM6:=hM.1 hS0;obtain ⟨v6_18,e18,h18⟩:=hI.get (i:=3) (gM 3 rfl) d3;obtain rfl:=h18;exact aD [(18,_)] hU hmo hme hI hM (gM 4 rfl) rfl rfl (by kernel_rfl) ⟨e18,trivial⟩ (au ao rfl (by exact (show _=some (Value.int .i64 m.f) from (hm3.from_ (ai.rfl_.next hM6)).rd 1 rfl))) ai.rfl_ (fun _=>rfl)
  constructor
  ·rintro S L' w7 hU hmo hme hI hM hC hS ⟨-⟩;have hS0:S 7=false:=(aj hC (j:=7) rfl (by kernel_rfl) (aj hC (j:=6) rfl (by kernel_rfl) hS));have hM7:=hM.1 hS0;have e3:=hI.1 3 (dI rfl);exact aD [(3,_)] hU hmo hme hI hM (gM 5 rfl) rfl rfl (by kernel_rfl) ⟨e3,trivial⟩ (aa dA rfl) ai.rfl_ (rfl)
  constructor
  ·rintro S L' w8 hU hmo hme hI hM hC hS ⟨d5,-⟩;have hS0:S 7=false:=(aj hC (j:=7) rfl (by kernel_rfl) hS);have hM8:=hM.1 hS0;obtain ⟨v8_20,e20,h20⟩:=hI.get (i:=5) (gM 5 rfl) d5;obtain rfl:=h20;exact aD [(20,_)] hU hmo hme hI hM (gM 6 rfl) rfl rfl (by kernel_rfl) ⟨e20,trivial⟩ (au ao rfl (by exact (show _=some (Value.int .i64 m.rd) from (hm3.from_ (ai.rfl_.next hM8)).rd 7 rfl))) ai.rfl_ (fun _=>rfl)
  constructor
  ·rintro S L' w9 hU hmo hme hI hM hC hS ⟨d2,d4,d6,-⟩;have hS0:S 7=false:=hS;have hM9:=hM.1 hS0;obtain ⟨v9_17,e17,h17⟩:=hI.get (i:=2) (gM 2 rfl) d2;obtain rfl:=h17;obtain ⟨v9_19,e19,h19⟩:=hI.get (i:=4) (gM 4 rfl) d4;obtain rfl:=h19 hS0;obtain ⟨v9_21,e21,h21⟩:=hI.get (i:=6) (gM 6 rfl) d6;obtain rfl:=h21 hS0;refine fo (al:=[.tmp 17,.tmp 19,.tmp 21]) [(17,_),(19,_),(21,_)] hU hI (gM 7 rfl) (by kernel_rfl) ⟨e17,e19,e21,trivial⟩ jz ((qU wm Z7 T g s [] _ (h3.from_ (ai.rfl_.next hM9)) hF m.f m.rd).mono ?_);rintro v9 w2 ⟨rfl,hS2⟩;exact ⟨⟨fun h0=>(by rw [gL] at h0;cases h0),fun _=>hS2⟩,rfl,⟨fun _ _ _ h=>h,fun _ _ _ h=>h,fun _ _ _ h=>h,fun _ _ _ h=>h,fun _ _ _ _ h0=>(by rw [gL] at h0;cases h0),fun _ _ _ h=>h,fun _ _ _ _ h0=>(by rw [gL] at h0;cases h0),fun _ _ _ h=>h,trivial⟩⟩
  exact trivial
 case hend=>
  intro w10 hM;obtain hS9:=hM.2 rfl;rintro v10_15 rfl v10_16 rfl v10_17 rfl v10_18 rfl v10_19-v10_20 rfl v10_21-v10_22 rfl;refine fB (ag (an (an (af (ab (aa cw rfl) ?_)))));obtain ⟨s1,hs1e⟩:∃ x,x=js s m.f m.rd:=⟨_,rfl⟩;have hF1:RfF s1:=by rw [hs1e];exact hF.ack hf
  have hr1:s1.role=2:=by rw [hs1e];exact hro
  have hn1:s1.nodes=s.nodes:=by rw [hs1e];rfl
  have hl1:bd s1=bd s:=by rw [hs1e];rfl
  rw [←hs1e] at hS9;obtain ⟨tag5,⟨E,Ec,V,Vc,X,Xc,M,Mc,Sn,Sc,Q,Qc,LL⟩,O,oc,L,hs5⟩:=hS9.ex;have hll5:=hs5.m.l;have hXl:s1.next.length=s1.nodes.toNat:=by rw [hF1.nx.1,dO hr1]
  have hMl:s1.mtch.length=s1.nodes.toNat:=by rw [hF1.ma.1,dO hr1]
  have hSl:s1.sent.length=s1.nodes.toNat:=by rw [hF1.se.1,dO hr1]
  have hkX:k<s1.next.length:=by omega
  have hkM:k<s1.mtch.length:=by omega
  have hkS:k<s1.sent.length:=by omega
  have hnx:=hF1.nx.2 _ (List.getElem_mem hkX);have hma:=hF1.ma.2 _ (List.getElem_mem hkM);have hnn:=hF1.n;have hbl:=hF1.last;obtain ⟨gX,rfl⟩:∃ q,X=some ⟨q,0,none⟩:=c8 (n:=s1.next.length) (hs5.f.x (by decide)).1 (by omega);obtain ⟨gM,rfl⟩:∃ q,M=some ⟨q,0,none⟩:=c8 (n:=s1.mtch.length) (hs5.f.m (by decide)).1 (by omega);obtain ⟨gSn,rfl⟩:∃ q,Sn=some ⟨q,0,none⟩:=c8 (n:=s1.sent.length) (hs5.f.n (by decide)).1 (by omega);have hXr:World.ownsRow _ 0 3 1 (.slice (some ⟨gX,0,none⟩) s1.next.length Xc) s1.next.length (s1.next.map iV):=(hs5.f.x (by decide)).1;have hMr:World.ownsRow _ 0 3 1 (.slice (some ⟨gM,0,none⟩) s1.mtch.length Mc) s1.mtch.length (s1.mtch.map iV):=(hs5.f.m (by decide)).1;have hXc:=gU hXr hkX rfl;have hMc:=gU hMr hkM rfl;have hatX:=mw (l:=s1.next) hk hkX;have hatM:=mw (l:=s1.mtch) hk hkM;have he5:cH _ (.slice E s1.es.length Ec) s1.es:=(bm.rd hs5.f).e;have hb5:=hs5.b;refine ab (au ao rfl (by exact (show _=some (Value.int .i64 m.k) from ((hS9.kept hzb hm9).from_ ai.rfl_).rd 0 rfl))) ?_;refine ab (bY (bh rfl rfl) (beq_eq_false_iff_ne.2 (by omega))) (ak (ag (bc rfl (aN (ag (an (af (mvp rfl (ab (av rfl) (ab (aa aF rfl) (aC fj (ir T g s1 _ _ _ (hb5.from_ ai.rfl_) (he5.from_ ai.rfl_) hF1.lg) ?_)))))))))));rintro v33 w11 ⟨rfl,E33⟩;refine mvt rfl (ab (aY rfl rfl) (ab (aY rfl rfl) (asi rfl (asi rfl (ak (ag (an ?_)))))));apply bD 22 [(36,eqp _),(37,eqp _),(38,eqp _),(39,eqp _),(40,eqp _),(41,eqp (.slice (some ⟨gX,0,none⟩) s1.next.length Xc)),(42,eqp _),(43,eqp (.int .i64 m.f)),(44,eqp (.int .i64 (k:Nat))),(45,eqp _),(46,eqp _),(47,eqp _),(48,eqp _),(49,eqp _),(50,eqp _),(51,eqp (.slice (some ⟨gM,0,none⟩) s1.mtch.length Mc)),(52,eqp _),(53,eqp (.int .i64 m.f)),(54,eqp (.int .i64 (k:Nat))),(55,eqp _),(6,eqp _),(7,eqp _)] (by repeat first | exact cl | refine ck ?_ | refine bM ?_) (by kernel_rfl) (by kernel_rfl) ⟨ah _,ah _,ah _,ah _,ah _,ah _,ah _,ah _,ah _,ah _,ah _,ah _,ah _,ah _,ah _,ah _,ah _,ah _,ah _,ah _,ah _,ah _,trivial⟩
  case hop=>
   constructor
   ·rintro-w13 D13;exact aq (aB (v:=.pointer _) rfl) rfl
   constructor
   ·rintro-w14 D14;rintro _ rfl;exact aq (av rfl) rfl
   constructor
   ·rintro-w15 D15;rintro _ rfl;exact aq (aa aF rfl) rfl
   constructor
   ·rintro-w16 D16;rintro _ rfl;exact aq (aa az rfl) rfl
   constructor
   ·rintro-w17 D17;rintro _ rfl;exact aq (aa bw rfl) rfl
   constructor
   ·rintro-w18 D18;rintro _ rfl;exact aq (au aR rfl (by exact (show _=some (Value.slice (some ⟨gX,0,none⟩) s1.next.length Xc) from ch (hs5.b.from_ ((ai.rfl_.next E33).next D18)) 15 rfl))) rfl
   constructor
   ·rintro-w19 D19;exact aq (aa br rfl) rfl
   constructor
   ·rintro-w20 D20;rintro _ rfl;exact aq (au ao rfl (by exact (show _=some (Value.int .i64 m.f) from ((hS9.kept hzb hm9).from_ ((ai.rfl_.next E33).next D20)).rd 1 rfl))) rfl
   constructor
   ·rintro-w21 D21;rintro v21_43 rfl;exact aq (eI (cY rfl rfl (by omega)) (bo (by omega))) rfl
   constructor
   ·rintro-w22 D22;rintro v22_41 rfl v22_44 rfl;exact aq (bp aV rfl rfl (by omega)) rfl
   constructor
   ·rintro-w23 D23;exact aq (aB (v:=.pointer _) rfl) rfl
   constructor
   ·rintro-w24 D24;rintro _ rfl;exact aq (av rfl) rfl
   constructor
   ·rintro-w25 D25;rintro _ rfl;exact aq (aa aF rfl) rfl
   constructor
   ·rintro-w26 D26;rintro _ rfl;exact aq (aa az rfl) rfl
   constructor
   ·rintro-w27 D27;rintro _ rfl;exact aq (aa cf rfl) rfl
   constructor
   ·rintro-w28 D28;rintro _ rfl;exact aq (au aR rfl (by exact (show _=some (Value.slice (some ⟨gM,0,none⟩) s1.mtch.length Mc) from ch (hs5.b.from_ ((ai.rfl_.next E33).next D28)) 16 rfl))) rfl
   constructor
   ·rintro-w29 D29;exact aq (aa br rfl) rfl
   constructor
   ·rintro-w30 D30;rintro _ rfl;exact aq (au ao rfl (by exact (show _=some (Value.int .i64 m.f) from ((hS9.kept hzb hm9).from_ ((ai.rfl_.next E33).next D30)).rd 1 rfl))) rfl
   constructor
   ·rintro-w31 D31;rintro v31_53 rfl;exact aq (eI (cY rfl rfl (by omega)) (bo (by omega))) rfl
   constructor
   ·rintro-w32 D32;rintro v32_51 rfl v32_54 rfl;exact aq (bp aV rfl rfl (by omega)) rfl
   constructor
   ·rintro-w33 D33;rintro _ rfl;exact aq (dp (v:=.pointer _) rfl) rfl
   constructor
   ·rintro-w34 D34;rintro _ rfl;exact aq (dp (v:=.pointer _) rfl) rfl
   exact trivial
  case hend=>
   intro w35 D35;rintro _ rfl _ rfl _ rfl _ rfl _ rfl v41 rfl _ rfl v43 rfl v44 rfl _ rfl _ rfl _ rfl _ rfl _ rfl _ rfl v51 rfl _ rfl v53 rfl v54 rfl _ rfl _ rfl _ rfl;show St ..;refine ak (ag (an (an (af (ab (aa fQ rfl) ?_)))));refine ab (au eU rfl (show _=some (Value.bool false) from by rw [←hok];exact ((hS9.kept hzb hm9).from_ ((ai.rfl_.next E33).next D35)).rd 8 rfl)) ?_;refine ab (dd (cp rfl) rfl) (ak (ag (a_ rfl (an ?_))));apply bD 15 [(59,eqp _),(60,eqp _),(61,eqp _),(62,eqp (.int .i64 s1.next[k])),(63,eqp _),(64,eqp _),(65,eqp (.int .i64 m.ix)),(66,eqp _),(67,eqp _),(68,eqp _),(69,eqp _),(70,eqp (.int .i64 s1.mtch[k])),(71,eqp _),(72,eqp _),(73,eqp _)] (by repeat first | exact cl | refine ck ?_ | refine bM ?_) (by kernel_rfl) (by kernel_rfl) ⟨ah _,ah _,ah _,ah _,ah _,ah _,ah _,ah _,ah _,ah _,ah _,ah _,ah _,ah _,ah _,trivial⟩
   case hop=>
    constructor
    ·rintro-w37 D37;exact aq (aB (v:=.pointer _) rfl) rfl
    constructor
    ·rintro-w38 D38;exact aq (aB (v:=.pointer _) rfl) rfl
    constructor
    ·rintro-w39 D39;rintro _ rfl;exact aq (av rfl) rfl
    constructor
    ·rintro-w40 D40;rintro _ rfl;exact aq (au ao rfl (by exact dg (((ai.rfl_.next E33).next D35).next D40) hXc)) rfl
    constructor
    ·rintro-w41 D41;rintro v41_62 rfl;exact aq (cY rfl rfl (by omega)) rfl
    constructor
    ·rintro-w42 D42;exact aq (aa cI rfl) rfl
    constructor
    ·rintro-w43 D43;rintro _ rfl;exact aq (au ao rfl (by exact (show _=some (Value.int .i64 m.ix) from ((hS9.kept hzb hm9).from_ (((ai.rfl_.next E33).next D35).next D43)).rd 4 rfl))) rfl
    constructor
    ·rintro-w44 D44;rintro v44_65 rfl;exact aq (b0 rfl rfl (by omega)) rfl
    constructor
    ·rintro-w45 D45;rintro _ rfl _ rfl;exact aq (iE rfl rfl) rfl
    constructor
    ·rintro-w46 D46;exact aq (aB (v:=.pointer _) rfl) rfl
    constructor
    ·rintro-w47 D47;rintro _ rfl;exact aq (av rfl) rfl
    constructor
    ·rintro-w48 D48;rintro _ rfl;exact aq (au ao rfl (by exact dg (((ai.rfl_.next E33).next D35).next D48) hMc)) rfl
    constructor
    ·rintro-w49 D49;rintro v49_70 rfl;exact aq (b0 rfl rfl (by omega)) rfl
    constructor
    ·rintro-w50 D50;rintro _ rfl _ rfl;exact aq (lA rfl rfl) rfl
    constructor
    ·rintro-w51 D51;rintro _ rfl;exact aq (av rfl) rfl
    exact trivial
   case hend=>
    intro w52 D52;rintro _ rfl _ rfl _ rfl v62 rfl _ rfl _ rfl v65 rfl _ rfl _ rfl _ rfl _ rfl v70 rfl _ rfl _ rfl _ rfl;show St ..;have hMq8:ai _ w52:=(((ai.rfl_.next E33).next D35).next D52);refine eg (xs:=s1.next.map iV) bj rfl rfl rfl (show World.ownsRow _ 0 3 1 (.slice (some ⟨gX,0,none⟩) s1.next.length _) s1.next.length _ from (hs5.f.x (by decide)).1.kept_from hMq8) (by show k<s1.next.length;omega) ?_;intro w53 Oq8 Pq8;obtain ⟨hs6,h6⟩:=aQ.rowX hS9 hs5 hk rfl hMq8 Oq8 (v:=max (min (s1.next[k]-1) (m.ix+1)) (s1.mtch[k]+1)) Pq8;refine ak (ag (an ?_));apply bD 10 [(74,eqp _),(75,eqp _),(76,eqp _),(77,eqp _),(78,eqp _),(79,eqp (.slice (some ⟨gSn,0,none⟩) s1.sent.length Sc)),(80,eqp _),(81,eqp (.int .i64 m.f)),(82,eqp (.int .i64 (k:Nat))),(83,eqp _)] (by repeat first | exact cl | refine ck ?_ | refine bM ?_) (by kernel_rfl) (by kernel_rfl) ⟨ah _,ah _,ah _,ah _,ah _,ah _,ah _,ah _,ah _,ah _,trivial⟩
    case hop=>
     constructor
     ·rintro-w55 D55;exact aq (aB (v:=.pointer _) rfl) rfl
     constructor
     ·rintro-w56 D56;rintro _ rfl;exact aq (av rfl) rfl
     constructor
     ·rintro-w57 D57;rintro _ rfl;exact aq (aa aF rfl) rfl
     constructor
     ·rintro-w58 D58;rintro _ rfl;exact aq (aa az rfl) rfl
     constructor
     ·rintro-w59 D59;rintro _ rfl;exact aq (aa ct rfl) rfl
     constructor
     ·rintro-w60 D60;rintro _ rfl;exact aq (au aR rfl (by exact (show _=some (Value.slice (some ⟨gSn,0,none⟩) s1.sent.length Sc) from ch (hs6.b.from_ (ai.rfl_.next D60)) 17 rfl))) rfl
     constructor
     ·rintro-w61 D61;exact aq (aa br rfl) rfl
     constructor
     ·rintro-w62 D62;rintro _ rfl;exact aq (au ao rfl (by exact (show _=some (Value.int .i64 m.f) from ((h6.kept hzb hm9).from_ (ai.rfl_.next D62)).rd 1 rfl))) rfl
     constructor
     ·rintro-w63 D63;rintro v63_81 rfl;exact aq (eI (cY rfl rfl (by omega)) (bo (by omega))) rfl
     constructor
     ·rintro-w64 D64;rintro v64_79 rfl v64_82 rfl;exact aq (bp aV rfl rfl (by omega)) rfl
     exact trivial
    case hend=>
     intro w65 D65;rintro _ rfl _ rfl _ rfl _ rfl _ rfl v79 rfl _ rfl v81 rfl v82 rfl _ rfl;show St ..;have hMq9:ai _ w65:=(ai.rfl_.next D65);refine eg (xs:=s1.sent.map iV) bj rfl rfl rfl (show World.ownsRow _ 0 3 1 (.slice (some ⟨gSn,0,none⟩) s1.sent.length _) s1.sent.length _ from (hs6.f.n (by decide)).1.kept_from hMq9) (by show k<s1.sent.length;omega) ?_;intro w66 Oq9 Pq9;obtain ⟨hs7,h7⟩:=aQ.rowS h6 hs6 hk rfl hMq9 Oq9 (v:=0) Pq9;refine ak (ag (an (af (mvp rfl (ab (aa br rfl) (ab (au ao rfl (by exact (show _=some (Value.int .i64 m.f) from ((h7.kept hzb hm9).from_ ai.rfl_).rd 1 rfl))) ?_))))));have hFN:RfF ({ s1 with next:=bK s1.next m.f (max (min (s1.next[k]-1) (m.ix+1)) (s1.mtch[k]+1)),sent:=bK s1.sent m.f 0 }:Rf):=(hF1.nextPut (k:=m.f) (v:=max (min (s1.next[k]-1) (m.ix+1)) (s1.mtch[k]+1)) (by show 1≤_∧_≤bd s1+1;omega)).sentPut (k:=m.f) (v:=0) ⟨Int.le_refl _,Int.natCast_nonneg _⟩;refine aC ke (nM wm Z7 T g ⟨({ s1 with next:=bK s1.next m.f (max (min (s1.next[k]-1) (m.ix+1)) (s1.mtch[k]+1)),sent:=bK s1.sent m.f 0 }:Rf),[]⟩ _ (h7.from_ ai.rfl_) hFN hr1 (Nat.zero_le _) m.f (by show 1≤m.f∧m.f≤s1.nodes;omega)) ?_;rintro v87 w67 ⟨rfl,h8⟩;refine ak (ag (aE (aG (dN rfl ?_))));have hax:at1 s.next m.f=s1.next[k]:=by rw [←hatX,hs1e];rfl
     have ham:at1 s.mtch m.f=s1.mtch[k]:=by rw [←hatM,hs1e];rfl
     rw [wC hro hk4 hok,hax,ham,←hs1e];have e1:s.next=s1.next:=by rw [hs1e];rfl
     have e2:s.sent=s1.sent:=by rw [hs1e];rfl
     rw [e1,e2];exact ⟨rfl,h.back hE3 (h8.from_ ai.rfl_) hzi⟩
theorem Ab (w0:World) (Z:Nat→Prop) (T g:Nat) (s:Rf) (m:Msg) (w:World) (h:aQ w0 Z w T g ⟨s,[]⟩) (hF:RfF s) (hf:1≤m.f∧m.f≤s.nodes) (hro:s.role=2) (hk4:m.k=4) (_:0≤m.ix∧m.ix≤1099511627775) (hok:m.ok=true) (hi:bd s<m.ix) :
 Rt prog 104 [.pointer (some ⟨g,0,none⟩),.agg (bC m).toArray] w (fun v w'=>v=.tuple #[]∧aQ w0 Z w' T g (gj s m)):=by
 obtain ⟨k,hk⟩:∃ k:Nat,m.f=(k:Int)+1:=⟨(m.f-1).toNat,by omega⟩;refine enter (n:=129) Tryz.func104 rfl rfl rfl (an (af (bQ (v:=.agg _) rfl ?_)));intro b3 w1 E3 hb3 hk3;obtain ⟨wm,hwm⟩:∃ x,x=w1:=⟨_,rfl⟩
 have h3a:=h.at_ (Z':=fun k=>Z k∨k=b3) E3 (fun k hk=>by
  rcases hk with e | e
  ·exact ⟨Nat.lt_of_lt_of_le (h.zw k e) E3.size,.inl e⟩
  ·subst e;exact ⟨hk3.lt,.inr (by omega)⟩)
 obtain ⟨Z7,hZ7⟩:∃ Z7,Z7=fun k=>Z k∨k=b3:=⟨_,rfl⟩
 have h3:aQ wm Z7 w1 T g ⟨s,[]⟩:=by
  rw [hZ7,hwm];exact h3a
 have hzi:∀ k,Z k→Z7 k:=fun k hk=>by rw [hZ7];exact .inl hk
 have hzb:Z7 b3:=by rw [hZ7];exact .inr rfl
 have hE3:ai w wm:=by rw [hwm];exact E3
 have hm9:Blk wm b3 39 (bC m).toArray:=by rw [hwm];exact hk3
 have hm3:=h3.kept hzb hm9;refine ak (ag (an (an (af (mvp rfl (ab (av rfl) (ab (aa aF rfl) (ab (aa az rfl) (ab (aa cT rfl) (ab (au ao rfl (by exact (show _=some (Value.int .i64 s.role) from (h3.from_ ai.rfl_).rd (fun _=>rfl)))) ?_))))))))));refine ab (bY (de rfl rfl) (by rw [hro];rfl)) ?_;refine ak (ag (bc rfl (aN (ag (an ?_)))));apply ig [(0,15,fun _ v _=>v=_),(1,16,fun _ v _=>v=_),(2,17,fun _ v _=>v=_),(3,18,fun _ v _=>v=_),(4,19,fun S v w9=>S 7=false→(eqp (.int .i64 m.f)) v w9),(5,20,fun _ v _=>v=_),(6,21,fun S v w9=>S 7=false→(eqp (.int .i64 m.rd)) v w9),(7,22,fun _ v _=>v=_)] [7] (fun S w'=>(S 7=false→ai w1 w')∧(S 7=true→aQ wm Z7 w' T g ⟨js s m.f m.rd,[]⟩)) (by kernel_rfl) (by kernel_rfl) rfl rfl ⟨fun _ _ _ _ _ _ _ h=>h,fun _ _ _ _ _ _ _ h=>h,fun _ _ _ _ _ _ _ h=>h,fun _ _ _ _ _ _ _ h=>h,fun S i v w1 w2 hq hF h h0=>(ah _) v w1 w2 hF (h (im h0)),fun _ _ _ _ _ _ _ h=>h,fun S i v w1 w2 hq hF h h0=>(ah _) v w1 w2 hF (h (im h0)),fun _ _ _ _ _ _ _ h=>h,trivial⟩ (fun S i w1 w2 hq hF h=>⟨fun h0=>(h.1 (im h0)).next hF,fun h1=>(fun h=>h.from_ hF) (h.2 (ll (show 7≠i by rintro rfl;exact absurd hq (by decide)) h1))⟩) ⟨fun _=>ai.rfl_.d1,fun h=>by cases h⟩
 case hstep=>
  constructor
  ·rintro S L' w2 hU hmo hme hI hM hC hS ⟨-⟩;have hS0:S 7=false:=(aj hC (j:=7) rfl (by kernel_rfl) (aj hC (j:=2) rfl (by kernel_rfl) (aj hC (j:=1) rfl (by kernel_rfl) hS)));have hM2:=hM.1 hS0;have e0:=hI.1 0 (dI rfl);exact aD [(0,_)] hU hmo hme hI hM (.head _) rfl rfl (by kernel_rfl) ⟨e0,trivial⟩ (aB (v:=.pointer _) rfl) ai.rfl_ (rfl)
  constructor
  ·rintro S L' w3 hU hmo hme hI hM hC hS ⟨d0,-⟩;have hS0:S 7=false:=(aj hC (j:=7) rfl (by kernel_rfl) (aj hC (j:=2) rfl (by kernel_rfl) hS));have hM3:=hM.1 hS0;obtain ⟨v3_15,e15,h15⟩:=hI.get (i:=0) (.head _) d0;obtain rfl:=h15;exact aD [(15,_)] hU hmo hme hI hM (.tail _ (.head _)) rfl rfl (by kernel_rfl) ⟨e15,trivial⟩ (av rfl) ai.rfl_ (rfl)
  constructor
  ·rintro S L' w4 hU hmo hme hI hM hC hS ⟨d1,-⟩;have hS0:S 7=false:=(aj hC (j:=7) rfl (by kernel_rfl) hS);have hM4:=hM.1 hS0;obtain ⟨v4_16,e16,h16⟩:=hI.get (i:=1) (.tail _ (.head _)) d1;obtain rfl:=h16;exact aD [(16,_)] hU hmo hme hI hM (gM 2 rfl) rfl rfl (by kernel_rfl) ⟨e16,trivial⟩ (aa aF rfl) ai.rfl_ (rfl)
  constructor
  ·rintro S L' w5 hU hmo hme hI hM hC hS ⟨-⟩;have hS0:S 7=false:=(aj hC (j:=7) rfl (by kernel_rfl) (aj hC (j:=4) rfl (by kernel_rfl) hS));have hM5:=hM.1 hS0;have e3:=hI.1 3 (dI rfl);exact aD [(3,_)] hU hmo hme hI hM (gM 3 rfl) rfl rfl (by kernel_rfl) ⟨e3,trivial⟩ (aa br rfl) ai.rfl_ (rfl)
  constructor
  ·rintro S L' w6 hU hmo hme hI hM hC hS ⟨d3,-⟩;have hS0:S 7=false:=(aj hC (j:=7) rfl (by kernel_rfl) hS);have hM6:=hM.1 hS0;obtain ⟨v6_18,e18,h18⟩:=hI.get (i:=3) (gM 3 rfl) d3;obtain rfl:=h18;exact aD [(18,_)] hU hmo hme hI hM (gM 4 rfl) rfl rfl (by kernel_rfl) ⟨e18,trivial⟩ (au ao rfl (by exact (show _=some (Value.int .i64 m.f) from (hm3.from_ (ai.rfl_.next hM6)).rd 1 rfl))) ai.rfl_ (fun _=>rfl)
  constructor
  ·rintro S L' w7 hU hmo hme hI hM hC hS ⟨-⟩;have hS0:S 7=false:=(aj hC (j:=7) rfl (by kernel_rfl) (aj hC (j:=6) rfl (by kernel_rfl) hS));have hM7:=hM.1 hS0;have e3:=hI.1 3 (dI rfl);exact aD [(3,_)] hU hmo hme hI hM (gM 5 rfl) rfl rfl (by kernel_rfl) ⟨e3,trivial⟩ (aa dA rfl) ai.rfl_ (rfl)
  constructor
  ·rintro S L' w8 hU hmo hme hI hM hC hS ⟨d5,-⟩;have hS0:S 7=false:=(aj hC (j:=7) rfl (by kernel_rfl) hS);have hM8:=hM.1 hS0;obtain ⟨v8_20,e20,h20⟩:=hI.get (i:=5) (gM 5 rfl) d5;obtain rfl:=h20;exact aD [(20,_)] hU hmo hme hI hM (gM 6 rfl) rfl rfl (by kernel_rfl) ⟨e20,trivial⟩ (au ao rfl (by exact (show _=some (Value.int .i64 m.rd) from (hm3.from_ (ai.rfl_.next hM8)).rd 7 rfl))) ai.rfl_ (fun _=>rfl)
  constructor
  ·rintro S L' w9 hU hmo hme hI hM hC hS ⟨d2,d4,d6,-⟩;have hS0:S 7=false:=hS;have hM9:=hM.1 hS0;obtain ⟨v9_17,e17,h17⟩:=hI.get (i:=2) (gM 2 rfl) d2;obtain rfl:=h17;obtain ⟨v9_19,e19,h19⟩:=hI.get (i:=4) (gM 4 rfl) d4;obtain rfl:=h19 hS0;obtain ⟨v9_21,e21,h21⟩:=hI.get (i:=6) (gM 6 rfl) d6;obtain rfl:=h21 hS0;refine fo (al:=[.tmp 17,.tmp 19,.tmp 21]) [(17,_),(19,_),(21,_)] hU hI (gM 7 rfl) (by kernel_rfl) ⟨e17,e19,e21,trivial⟩ jz ((qU wm Z7 T g s [] _ (h3.from_ (ai.rfl_.next hM9)) hF m.f m.rd).mono ?_);rintro v9 w2 ⟨rfl,hS2⟩;exact ⟨⟨fun h0=>(by rw [gL] at h0;cases h0),fun _=>hS2⟩,rfl,⟨fun _ _ _ h=>h,fun _ _ _ h=>h,fun _ _ _ h=>h,fun _ _ _ h=>h,fun _ _ _ _ h0=>(by rw [gL] at h0;cases h0),fun _ _ _ h=>h,fun _ _ _ _ h0=>(by rw [gL] at h0;cases h0),fun _ _ _ h=>h,trivial⟩⟩
  exact trivial
 case hend=>
  intro w10 hM;obtain hS9:=hM.2 rfl;rintro v10_15 rfl v10_16 rfl v10_17 rfl v10_18 rfl v10_19-v10_20 rfl v10_21-v10_22 rfl;refine fB (ag (an (an (af (ab (aa cw rfl) ?_)))));obtain ⟨s1,hs1e⟩:∃ x,x=js s m.f m.rd:=⟨_,rfl⟩;have hF1:RfF s1:=by rw [hs1e];exact hF.ack hf
  have hr1:s1.role=2:=by rw [hs1e];exact hro
  have hn1:s1.nodes=s.nodes:=by rw [hs1e];rfl
  have hl1:bd s1=bd s:=by rw [hs1e];rfl
  rw [←hs1e] at hS9;obtain ⟨tag5,⟨E,Ec,V,Vc,X,Xc,M,Mc,Sn,Sc,Q,Qc,LL⟩,O,oc,L,hs5⟩:=hS9.ex;have hll5:=hs5.m.l;have hXl:s1.next.length=s1.nodes.toNat:=by rw [hF1.nx.1,dO hr1]
  have hMl:s1.mtch.length=s1.nodes.toNat:=by rw [hF1.ma.1,dO hr1]
  have hSl:s1.sent.length=s1.nodes.toNat:=by rw [hF1.se.1,dO hr1]
  have hkX:k<s1.next.length:=by omega
  have hkM:k<s1.mtch.length:=by omega
  have hkS:k<s1.sent.length:=by omega
  have hnx:=hF1.nx.2 _ (List.getElem_mem hkX);have hma:=hF1.ma.2 _ (List.getElem_mem hkM);have hnn:=hF1.n;have hbl:=hF1.last;obtain ⟨gX,rfl⟩:∃ q,X=some ⟨q,0,none⟩:=c8 (n:=s1.next.length) (hs5.f.x (by decide)).1 (by omega);obtain ⟨gM,rfl⟩:∃ q,M=some ⟨q,0,none⟩:=c8 (n:=s1.mtch.length) (hs5.f.m (by decide)).1 (by omega);obtain ⟨gSn,rfl⟩:∃ q,Sn=some ⟨q,0,none⟩:=c8 (n:=s1.sent.length) (hs5.f.n (by decide)).1 (by omega);have hXr:World.ownsRow _ 0 3 1 (.slice (some ⟨gX,0,none⟩) s1.next.length Xc) s1.next.length (s1.next.map iV):=(hs5.f.x (by decide)).1;have hMr:World.ownsRow _ 0 3 1 (.slice (some ⟨gM,0,none⟩) s1.mtch.length Mc) s1.mtch.length (s1.mtch.map iV):=(hs5.f.m (by decide)).1;have hXc:=gU hXr hkX rfl;have hMc:=gU hMr hkM rfl;have hatX:=mw (l:=s1.next) hk hkX;have hatM:=mw (l:=s1.mtch) hk hkM;have he5:cH _ (.slice E s1.es.length Ec) s1.es:=(bm.rd hs5.f).e;have hb5:=hs5.b;refine ab (au ao rfl (by exact (show _=some (Value.int .i64 m.k) from ((hS9.kept hzb hm9).from_ ai.rfl_).rd 0 rfl))) ?_;refine ab (bY (bh rfl rfl) (beq_eq_false_iff_ne.2 (by omega))) (ak (ag (bc rfl (aN (ag (an (af (mvp rfl (ab (av rfl) (ab (aa aF rfl) (aC fj (ir T g s1 _ _ _ (hb5.from_ ai.rfl_) (he5.from_ ai.rfl_) hF1.lg) ?_)))))))))));rintro v33 w11 ⟨rfl,E33⟩;refine mvt rfl (ab (aY rfl rfl) (ab (aY rfl rfl) (asi rfl (asi rfl (ak (ag (an ?_)))))));apply bD 22 [(36,eqp _),(37,eqp _),(38,eqp _),(39,eqp _),(40,eqp _),(41,eqp (.slice (some ⟨gX,0,none⟩) s1.next.length Xc)),(42,eqp _),(43,eqp (.int .i64 m.f)),(44,eqp (.int .i64 (k:Nat))),(45,eqp _),(46,eqp _),(47,eqp _),(48,eqp _),(49,eqp _),(50,eqp _),(51,eqp (.slice (some ⟨gM,0,none⟩) s1.mtch.length Mc)),(52,eqp _),(53,eqp (.int .i64 m.f)),(54,eqp (.int .i64 (k:Nat))),(55,eqp _),(6,eqp _),(7,eqp _)] (by repeat first | exact cl | refine ck ?_ | refine bM ?_) (by kernel_rfl) (by kernel_rfl) ⟨ah _,ah _,ah _,ah _,ah _,ah _,ah _,ah _,ah _,ah _,ah _,ah _,ah _,ah _,ah _,ah _,ah _,ah _,ah _,ah _,ah _,ah _,trivial⟩
  case hop=>
   constructor
   ·rintro-w13 D13;exact aq (aB (v:=.pointer _) rfl) rfl
   constructor
   ·rintro-w14 D14;rintro _ rfl;exact aq (av rfl) rfl
   constructor
   ·rintro-w15 D15;rintro _ rfl;exact aq (aa aF rfl) rfl
   constructor
   ·rintro-w16 D16;rintro _ rfl;exact aq (aa az rfl) rfl
   constructor
   ·rintro-w17 D17;rintro _ rfl;exact aq (aa bw rfl) rfl
   constructor
   ·rintro-w18 D18;rintro _ rfl;exact aq (au aR rfl (by exact (show _=some (Value.slice (some ⟨gX,0,none⟩) s1.next.length Xc) from ch (hs5.b.from_ ((ai.rfl_.next E33).next D18)) 15 rfl))) rfl
   constructor
   ·rintro-w19 D19;exact aq (aa br rfl) rfl
   constructor
   ·rintro-w20 D20;rintro _ rfl;exact aq (au ao rfl (by exact (show _=some (Value.int .i64 m.f) from ((hS9.kept hzb hm9).from_ ((ai.rfl_.next E33).next D20)).rd 1 rfl))) rfl
   constructor
   ·rintro-w21 D21;rintro v21_43 rfl;exact aq (eI (cY rfl rfl (by omega)) (bo (by omega))) rfl
   constructor
   ·rintro-w22 D22;rintro v22_41 rfl v22_44 rfl;exact aq (bp aV rfl rfl (by omega)) rfl
   constructor
   ·rintro-w23 D23;exact aq (aB (v:=.pointer _) rfl) rfl
   constructor
   ·rintro-w24 D24;rintro _ rfl;exact aq (av rfl) rfl
   constructor
   ·rintro-w25 D25;rintro _ rfl;exact aq (aa aF rfl) rfl
   constructor
   ·rintro-w26 D26;rintro _ rfl;exact aq (aa az rfl) rfl
   constructor
   ·rintro-w27 D27;rintro _ rfl;exact aq (aa cf rfl) rfl
   constructor
   ·rintro-w28 D28;rintro _ rfl;exact aq (au aR rfl (by exact (show _=some (Value.slice (some ⟨gM,0,none⟩) s1.mtch.length Mc) from ch (hs5.b.from_ ((ai.rfl_.next E33).next D28)) 16 rfl))) rfl
   constructor
   ·rintro-w29 D29;exact aq (aa br rfl) rfl
   constructor
   ·rintro-w30 D30;rintro _ rfl;exact aq (au ao rfl (by exact (show _=some (Value.int .i64 m.f) from ((hS9.kept hzb hm9).from_ ((ai.rfl_.next E33).next D30)).rd 1 rfl))) rfl
   constructor
   ·rintro-w31 D31;rintro v31_53 rfl;exact aq (eI (cY rfl rfl (by omega)) (bo (by omega))) rfl
   constructor
   ·rintro-w32 D32;rintro v32_51 rfl v32_54 rfl;exact aq (bp aV rfl rfl (by omega)) rfl
   constructor
   ·rintro-w33 D33;rintro _ rfl;exact aq (dp (v:=.pointer _) rfl) rfl
   constructor
   ·rintro-w34 D34;rintro _ rfl;exact aq (dp (v:=.pointer _) rfl) rfl
   exact trivial
  case hend=>
   intro w35 D35;rintro _ rfl _ rfl _ rfl _ rfl _ rfl v41 rfl _ rfl v43 rfl v44 rfl _ rfl _ rfl _ rfl _ rfl _ rfl _ rfl v51 rfl _ rfl v53 rfl v54 rfl _ rfl _ rfl _ rfl;show St ..;refine ak (ag (an (an (af (ab (aa fQ rfl) ?_)))));refine ab (au eU rfl (show _=some (Value.bool true) from by rw [←hok];exact ((hS9.kept hzb hm9).from_ ((ai.rfl_.next E33).next D35)).rd 8 rfl)) ?_;refine ab (bY (cp rfl) rfl) (ak (ag (bc rfl (aN (ag (an (an (af (ab (aa cI rfl) (ab (au ao rfl (by exact (show _=some (Value.int .i64 m.ix) from ((hS9.kept hzb hm9).from_ ((ai.rfl_.next E33).next D35)).rd 4 rfl))) ?_))))))))));refine mvi rfl (ab (dd (cy rfl rfl) (decide_eq_true (by omega))) (ak (ag (a_ rfl (aE (aG (dN rfl ?_)))))));rw [wD hro hk4 hok hi,←hs1e];exact ⟨rfl,h.back hE3 (hS9.from_ ((ai.rfl_.next E33).next D35)) hzi⟩
theorem z_ (w0:World) (Z:Nat→Prop) (T g:Nat) (s:Rf) (m:Msg) (w:World) (h:aQ w0 Z w T g ⟨s,[]⟩) (hF:RfF s) (hf:1≤m.f∧m.f≤s.nodes) (hro:s.role=2) (hk4:m.k=4) (hix:0≤m.ix∧m.ix≤1099511627775) (hok:m.ok=true) (hi:m.ix≤bd s) :
 Rt prog 104 [.pointer (some ⟨g,0,none⟩),.agg (bC m).toArray] w (fun v w'=>v=.tuple #[]∧aQ w0 Z w' T g (gj s m)):=by
 obtain ⟨k,hk⟩:∃ k:Nat,m.f=(k:Int)+1:=⟨(m.f-1).toNat,by omega⟩;refine enter (n:=129) Tryz.func104 rfl rfl rfl (an (af (bQ (v:=.agg _) rfl ?_)));intro b3 w1 E3 hb3 hk3;obtain ⟨wm,hwm⟩:∃ x,x=w1:=⟨_,rfl⟩
 have h3a:=h.at_ (Z':=fun k=>Z k∨k=b3) E3 (fun k hk=>by
  rcases hk with e | e
  ·exact ⟨Nat.lt_of_lt_of_le (h.zw k e) E3.size,.inl e⟩
  ·subst e;exact ⟨hk3.lt,.inr (by omega)⟩)
 obtain ⟨Z7,hZ7⟩:∃ Z7,Z7=fun k=>Z k∨k=b3:=⟨_,rfl⟩
 have h3:aQ wm Z7 w1 T g ⟨s,[]⟩:=by
  rw [hZ7,hwm];exact h3a
 have hzi:∀ k,Z k→Z7 k:=fun k hk=>by rw [hZ7];exact .inl hk
 have hzb:Z7 b3:=by rw [hZ7];exact .inr rfl
 have hE3:ai w wm:=by rw [hwm];exact E3
 have hm9:Blk wm b3 39 (bC m).toArray:=by rw [hwm];exact hk3
 have hm3:=h3.kept hzb hm9;refine ak (ag (an (an (af (mvp rfl (ab (av rfl) (ab (aa aF rfl) (ab (aa az rfl) (ab (aa cT rfl) (ab (au ao rfl (by exact (show _=some (Value.int .i64 s.role) from (h3.from_ ai.rfl_).rd (fun _=>rfl)))) ?_))))))))));refine ab (bY (de rfl rfl) (by rw [hro];rfl)) ?_;refine ak (ag (bc rfl (aN (ag (an ?_)))));apply ig [(0,15,fun _ v _=>v=_),(1,16,fun _ v _=>v=_),(2,17,fun _ v _=>v=_),(3,18,fun _ v _=>v=_),(4,19,fun S v w9=>S 7=false→(eqp (.int .i64 m.f)) v w9),(5,20,fun _ v _=>v=_),(6,21,fun S v w9=>S 7=false→(eqp (.int .i64 m.rd)) v w9),(7,22,fun _ v _=>v=_)] [7] (fun S w'=>(S 7=false→ai w1 w')∧(S 7=true→aQ wm Z7 w' T g ⟨js s m.f m.rd,[]⟩)) (by kernel_rfl) (by kernel_rfl) rfl rfl ⟨fun _ _ _ _ _ _ _ h=>h,fun _ _ _ _ _ _ _ h=>h,fun _ _ _ _ _ _ _ h=>h,fun _ _ _ _ _ _ _ h=>h,fun S i v w1 w2 hq hF h h0=>(ah _) v w1 w2 hF (h (im h0)),fun _ _ _ _ _ _ _ h=>h,fun S i v w1 w2 hq hF h h0=>(ah _) v w1 w2 hF (h (im h0)),fun _ _ _ _ _ _ _ h=>h,trivial⟩ (fun S i w1 w2 hq hF h=>⟨fun h0=>(h.1 (im h0)).next hF,fun h1=>(fun h=>h.from_ hF) (h.2 (ll (show 7≠i by rintro rfl;exact absurd hq (by decide)) h1))⟩) ⟨fun _=>ai.rfl_.d1,fun h=>by cases h⟩
 case hstep=>
  constructor
  ·rintro S L' w2 hU hmo hme hI hM hC hS ⟨-⟩;have hS0:S 7=false:=(aj hC (j:=7) rfl (by kernel_rfl) (aj hC (j:=2) rfl (by kernel_rfl) (aj hC (j:=1) rfl (by kernel_rfl) hS)));have hM2:=hM.1 hS0;have e0:=hI.1 0 (dI rfl);exact aD [(0,_)] hU hmo hme hI hM (.head _) rfl rfl (by kernel_rfl) ⟨e0,trivial⟩ (aB (v:=.pointer _) rfl) ai.rfl_ (rfl)
  constructor
  ·rintro S L' w3 hU hmo hme hI hM hC hS ⟨d0,-⟩;have hS0:S 7=false:=(aj hC (j:=7) rfl (by kernel_rfl) (aj hC (j:=2) rfl (by kernel_rfl) hS));have hM3:=hM.1 hS0;obtain ⟨v3_15,e15,h15⟩:=hI.get (i:=0) (.head _) d0;obtain rfl:=h15;exact aD [(15,_)] hU hmo hme hI hM (.tail _ (.head _)) rfl rfl (by kernel_rfl) ⟨e15,trivial⟩ (av rfl) ai.rfl_ (rfl)
  constructor
  ·rintro S L' w4 hU hmo hme hI hM hC hS ⟨d1,-⟩;have hS0:S 7=false:=(aj hC (j:=7) rfl (by kernel_rfl) hS);have hM4:=hM.1 hS0;obtain ⟨v4_16,e16,h16⟩:=hI.get (i:=1) (.tail _ (.head _)) d1;obtain rfl:=h16;exact aD [(16,_)] hU hmo hme hI hM (gM 2 rfl) rfl rfl (by kernel_rfl) ⟨e16,trivial⟩ (aa aF rfl) ai.rfl_ (rfl)
  constructor
  ·rintro S L' w5 hU hmo hme hI hM hC hS ⟨-⟩;have hS0:S 7=false:=(aj hC (j:=7) rfl (by kernel_rfl) (aj hC (j:=4) rfl (by kernel_rfl) hS));have hM5:=hM.1 hS0;have e3:=hI.1 3 (dI rfl);exact aD [(3,_)] hU hmo hme hI hM (gM 3 rfl) rfl rfl (by kernel_rfl) ⟨e3,trivial⟩ (aa br rfl) ai.rfl_ (rfl)
  constructor
  ·rintro S L' w6 hU hmo hme hI hM hC hS ⟨d3,-⟩;have hS0:S 7=false:=(aj hC (j:=7) rfl (by kernel_rfl) hS);have hM6:=hM.1 hS0;obtain ⟨v6_18,e18,h18⟩:=hI.get (i:=3) (gM 3 rfl) d3;obtain rfl:=h18;exact aD [(18,_)] hU hmo hme hI hM (gM 4 rfl) rfl rfl (by kernel_rfl) ⟨e18,trivial⟩ (au ao rfl (by exact (show _=some (Value.int .i64 m.f) from (hm3.from_ (ai.rfl_.next hM6)).rd 1 rfl))) ai.rfl_ (fun _=>rfl)
  constructor
  ·rintro S L' w7 hU hmo hme hI hM hC hS ⟨-⟩;have hS0:S 7=false:=(aj hC (j:=7) rfl (by kernel_rfl) (aj hC (j:=6) rfl (by kernel_rfl) hS));have hM7:=hM.1 hS0;have e3:=hI.1 3 (dI rfl);exact aD [(3,_)] hU hmo hme hI hM (gM 5 rfl) rfl rfl (by kernel_rfl) ⟨e3,trivial⟩ (aa dA rfl) ai.rfl_ (rfl)
  constructor
  ·rintro S L' w8 hU hmo hme hI hM hC hS ⟨d5,-⟩;have hS0:S 7=false:=(aj hC (j:=7) rfl (by kernel_rfl) hS);have hM8:=hM.1 hS0;obtain ⟨v8_20,e20,h20⟩:=hI.get (i:=5) (gM 5 rfl) d5;obtain rfl:=h20;exact aD [(20,_)] hU hmo hme hI hM (gM 6 rfl) rfl rfl (by kernel_rfl) ⟨e20,trivial⟩ (au ao rfl (by exact (show _=some (Value.int .i64 m.rd) from (hm3.from_ (ai.rfl_.next hM8)).rd 7 rfl))) ai.rfl_ (fun _=>rfl)
  constructor
  ·rintro S L' w9 hU hmo hme hI hM hC hS ⟨d2,d4,d6,-⟩;have hS0:S 7=false:=hS;have hM9:=hM.1 hS0;obtain ⟨v9_17,e17,h17⟩:=hI.get (i:=2) (gM 2 rfl) d2;obtain rfl:=h17;obtain ⟨v9_19,e19,h19⟩:=hI.get (i:=4) (gM 4 rfl) d4;obtain rfl:=h19 hS0;obtain ⟨v9_21,e21,h21⟩:=hI.get (i:=6) (gM 6 rfl) d6;obtain rfl:=h21 hS0;refine fo (al:=[.tmp 17,.tmp 19,.tmp 21]) [(17,_),(19,_),(21,_)] hU hI (gM 7 rfl) (by kernel_rfl) ⟨e17,e19,e21,trivial⟩ jz ((qU wm Z7 T g s [] _ (h3.from_ (ai.rfl_.next hM9)) hF m.f m.rd).mono ?_);rintro v9 w2 ⟨rfl,hS2⟩;exact ⟨⟨fun h0=>(by rw [gL] at h0;cases h0),fun _=>hS2⟩,rfl,⟨fun _ _ _ h=>h,fun _ _ _ h=>h,fun _ _ _ h=>h,fun _ _ _ h=>h,fun _ _ _ _ h0=>(by rw [gL] at h0;cases h0),fun _ _ _ h=>h,fun _ _ _ _ h0=>(by rw [gL] at h0;cases h0),fun _ _ _ h=>h,trivial⟩⟩
  exact trivial
 case hend=>
  intro w10 hM;obtain hS9:=hM.2 rfl;rintro v10_15 rfl v10_16 rfl v10_17 rfl v10_18 rfl v10_19-v10_20 rfl v10_21-v10_22 rfl;refine fB (ag (an (an (af (ab (aa cw rfl) ?_)))));obtain ⟨s1,hs1e⟩:∃ x,x=js s m.f m.rd:=⟨_,rfl⟩;have hF1:RfF s1:=by rw [hs1e];exact hF.ack hf
  have hr1:s1.role=2:=by rw [hs1e];exact hro
  have hn1:s1.nodes=s.nodes:=by rw [hs1e];rfl
  have hl1:bd s1=bd s:=by rw [hs1e];rfl
  rw [←hs1e] at hS9;obtain ⟨tag5,⟨E,Ec,V,Vc,X,Xc,M,Mc,Sn,Sc,Q,Qc,LL⟩,O,oc,L,hs5⟩:=hS9.ex;have hll5:=hs5.m.l;have hXl:s1.next.length=s1.nodes.toNat:=by rw [hF1.nx.1,dO hr1]
  have hMl:s1.mtch.length=s1.nodes.toNat:=by rw [hF1.ma.1,dO hr1]
  have hSl:s1.sent.length=s1.nodes.toNat:=by rw [hF1.se.1,dO hr1]
  have hkX:k<s1.next.length:=by omega
  have hkM:k<s1.mtch.length:=by omega
  have hkS:k<s1.sent.length:=by omega
  have hnx:=hF1.nx.2 _ (List.getElem_mem hkX);have hma:=hF1.ma.2 _ (List.getElem_mem hkM);have hnn:=hF1.n;have hbl:=hF1.last;obtain ⟨gX,rfl⟩:∃ q,X=some ⟨q,0,none⟩:=c8 (n:=s1.next.length) (hs5.f.x (by decide)).1 (by omega);obtain ⟨gM,rfl⟩:∃ q,M=some ⟨q,0,none⟩:=c8 (n:=s1.mtch.length) (hs5.f.m (by decide)).1 (by omega);obtain ⟨gSn,rfl⟩:∃ q,Sn=some ⟨q,0,none⟩:=c8 (n:=s1.sent.length) (hs5.f.n (by decide)).1 (by omega);have hXr:World.ownsRow _ 0 3 1 (.slice (some ⟨gX,0,none⟩) s1.next.length Xc) s1.next.length (s1.next.map iV):=(hs5.f.x (by decide)).1;have hMr:World.ownsRow _ 0 3 1 (.slice (some ⟨gM,0,none⟩) s1.mtch.length Mc) s1.mtch.length (s1.mtch.map iV):=(hs5.f.m (by decide)).1;have hXc:=gU hXr hkX rfl;have hMc:=gU hMr hkM rfl;have hatX:=mw (l:=s1.next) hk hkX;have hatM:=mw (l:=s1.mtch) hk hkM;have he5:cH _ (.slice E s1.es.length Ec) s1.es:=(bm.rd hs5.f).e;have hb5:=hs5.b;refine ab (au ao rfl (by exact (show _=some (Value.int .i64 m.k) from ((hS9.kept hzb hm9).from_ ai.rfl_).rd 0 rfl))) ?_;refine ab (bY (bh rfl rfl) (beq_eq_false_iff_ne.2 (by omega))) (ak (ag (bc rfl (aN (ag (an (af (mvp rfl (ab (av rfl) (ab (aa aF rfl) (aC fj (ir T g s1 _ _ _ (hb5.from_ ai.rfl_) (he5.from_ ai.rfl_) hF1.lg) ?_)))))))))));rintro v33 w11 ⟨rfl,E33⟩;refine mvt rfl (ab (aY rfl rfl) (ab (aY rfl rfl) (asi rfl (asi rfl (ak (ag (an ?_)))))));apply bD 22 [(36,eqp _),(37,eqp _),(38,eqp _),(39,eqp _),(40,eqp _),(41,eqp (.slice (some ⟨gX,0,none⟩) s1.next.length Xc)),(42,eqp _),(43,eqp (.int .i64 m.f)),(44,eqp (.int .i64 (k:Nat))),(45,eqp _),(46,eqp _),(47,eqp _),(48,eqp _),(49,eqp _),(50,eqp _),(51,eqp (.slice (some ⟨gM,0,none⟩) s1.mtch.length Mc)),(52,eqp _),(53,eqp (.int .i64 m.f)),(54,eqp (.int .i64 (k:Nat))),(55,eqp _),(6,eqp _),(7,eqp _)] (by repeat first | exact cl | refine ck ?_ | refine bM ?_) (by kernel_rfl) (by kernel_rfl) ⟨ah _,ah _,ah _,ah _,ah _,ah _,ah _,ah _,ah _,ah _,ah _,ah _,ah _,ah _,ah _,ah _,ah _,ah _,ah _,ah _,ah _,ah _,trivial⟩
  case hop=>
   constructor
   ·rintro-w13 D13;exact aq (aB (v:=.pointer _) rfl) rfl
   constructor
   ·rintro-w14 D14;rintro _ rfl;exact aq (av rfl) rfl
   constructor
   ·rintro-w15 D15;rintro _ rfl;exact aq (aa aF rfl) rfl
   constructor
   ·rintro-w16 D16;rintro _ rfl;exact aq (aa az rfl) rfl
   constructor
   ·rintro-w17 D17;rintro _ rfl;exact aq (aa bw rfl) rfl
   constructor
   ·rintro-w18 D18;rintro _ rfl;exact aq (au aR rfl (by exact (show _=some (Value.slice (some ⟨gX,0,none⟩) s1.next.length Xc) from ch (hs5.b.from_ ((ai.rfl_.next E33).next D18)) 15 rfl))) rfl
   constructor
   ·rintro-w19 D19;exact aq (aa br rfl) rfl
   constructor
   ·rintro-w20 D20;rintro _ rfl;exact aq (au ao rfl (by exact (show _=some (Value.int .i64 m.f) from ((hS9.kept hzb hm9).from_ ((ai.rfl_.next E33).next D20)).rd 1 rfl))) rfl
   constructor
   ·rintro-w21 D21;rintro v21_43 rfl;exact aq (eI (cY rfl rfl (by omega)) (bo (by omega))) rfl
   constructor
   ·rintro-w22 D22;rintro v22_41 rfl v22_44 rfl;exact aq (bp aV rfl rfl (by omega)) rfl
   constructor
   ·rintro-w23 D23;exact aq (aB (v:=.pointer _) rfl) rfl
   constructor
   ·rintro-w24 D24;rintro _ rfl;exact aq (av rfl) rfl
   constructor
   ·rintro-w25 D25;rintro _ rfl;exact aq (aa aF rfl) rfl
   constructor
   ·rintro-w26 D26;rintro _ rfl;exact aq (aa az rfl) rfl
   constructor
   ·rintro-w27 D27;rintro _ rfl;exact aq (aa cf rfl) rfl
   constructor
   ·rintro-w28 D28;rintro _ rfl;exact aq (au aR rfl (by exact (show _=some (Value.slice (some ⟨gM,0,none⟩) s1.mtch.length Mc) from ch (hs5.b.from_ ((ai.rfl_.next E33).next D28)) 16 rfl))) rfl
   constructor
   ·rintro-w29 D29;exact aq (aa br rfl) rfl
   constructor
   ·rintro-w30 D30;rintro _ rfl;exact aq (au ao rfl (by exact (show _=some (Value.int .i64 m.f) from ((hS9.kept hzb hm9).from_ ((ai.rfl_.next E33).next D30)).rd 1 rfl))) rfl
   constructor
   ·rintro-w31 D31;rintro v31_53 rfl;exact aq (eI (cY rfl rfl (by omega)) (bo (by omega))) rfl
   constructor
   ·rintro-w32 D32;rintro v32_51 rfl v32_54 rfl;exact aq (bp aV rfl rfl (by omega)) rfl
   constructor
   ·rintro-w33 D33;rintro _ rfl;exact aq (dp (v:=.pointer _) rfl) rfl
   constructor
   ·rintro-w34 D34;rintro _ rfl;exact aq (dp (v:=.pointer _) rfl) rfl
   exact trivial
  case hend=>
   intro w35 D35;rintro _ rfl _ rfl _ rfl _ rfl _ rfl v41 rfl _ rfl v43 rfl v44 rfl _ rfl _ rfl _ rfl _ rfl _ rfl _ rfl v51 rfl _ rfl v53 rfl v54 rfl _ rfl _ rfl _ rfl;show St ..;refine ak (ag (an (an (af (ab (aa fQ rfl) ?_)))));refine ab (au eU rfl (show _=some (Value.bool true) from by rw [←hok];exact ((hS9.kept hzb hm9).from_ ((ai.rfl_.next E33).next D35)).rd 8 rfl)) ?_;refine ab (bY (cp rfl) rfl) (ak (ag (bc rfl (aN (ag (an (an (af (ab (aa cI rfl) (ab (au ao rfl (by exact (show _=some (Value.int .i64 m.ix) from ((hS9.kept hzb hm9).from_ ((ai.rfl_.next E33).next D35)).rd 4 rfl))) ?_))))))))));refine mvi rfl (ab (bY (cy rfl rfl) (decide_eq_false (by omega))) (ak (ag (bc rfl (aN (ag (an ?_)))))));apply bD 8 [(92,eqp _),(93,eqp _),(94,eqp _),(95,eqp (.int .i64 s1.mtch[k])),(96,eqp _),(97,eqp (.int .i64 m.ix)),(98,eqp _),(99,eqp _)] (by repeat first | exact cl | refine ck ?_ | refine bM ?_) (by kernel_rfl) (by kernel_rfl) ⟨ah _,ah _,ah _,ah _,ah _,ah _,ah _,ah _,trivial⟩
   case hop=>
    constructor
    ·rintro-w37 D37;exact aq (aB (v:=.pointer _) rfl) rfl
    constructor
    ·rintro-w38 D38;exact aq (aB (v:=.pointer _) rfl) rfl
    constructor
    ·rintro-w39 D39;rintro _ rfl;exact aq (av rfl) rfl
    constructor
    ·rintro-w40 D40;rintro _ rfl;exact aq (au ao rfl (by exact dg (((ai.rfl_.next E33).next D35).next D40) hMc)) rfl
    constructor
    ·rintro-w41 D41;exact aq (aa cI rfl) rfl
    constructor
    ·rintro-w42 D42;rintro _ rfl;exact aq (au ao rfl (by exact (show _=some (Value.int .i64 m.ix) from ((hS9.kept hzb hm9).from_ (((ai.rfl_.next E33).next D35).next D42)).rd 4 rfl))) rfl
    constructor
    ·rintro-w43 D43;rintro v43_95 rfl v43_97 rfl;exact aq (lA rfl rfl) rfl
    constructor
    ·rintro-w44 D44;rintro _ rfl;exact aq (av rfl) rfl
    exact trivial
   case hend=>
    intro w45 D45;rintro _ rfl _ rfl _ rfl v95 rfl _ rfl v97 rfl _ rfl _ rfl;show St ..;have hMq12:ai _ w45:=(((ai.rfl_.next E33).next D35).next D45);refine eg (xs:=s1.mtch.map iV) bj rfl rfl rfl (show World.ownsRow _ 0 3 1 (.slice (some ⟨gM,0,none⟩) s1.mtch.length _) s1.mtch.length _ from (hs5.f.m (by decide)).1.kept_from hMq12) (by show k<s1.mtch.length;omega) ?_;intro w46 Oq12 Pq12;obtain ⟨hs6,h6⟩:=aQ.rowM hS9 hs5 hk rfl hMq12 Oq12 (v:=max (s1.mtch[k]) m.ix) Pq12;refine ak (ag (an (af ?_)));have hMc2:=gU (l:=bK s1.mtch m.f (max (s1.mtch[k]) m.ix)) (show World.ownsRow _ 0 3 1 (.slice (some ⟨gM,0,none⟩) (bK s1.mtch m.f (max (s1.mtch[k]) m.ix)).length Mc) _ _ from (hs6.f.m (by decide)).1) (by rw [cZ];omega) (mf hk (by rw [cZ];omega));refine mvp rfl (mvp rfl (ab (av rfl) (ab (au ao rfl (by exact dg ai.rfl_ hMc2)) ?_)));refine ab (b0 rfl rfl (by omega)) (ab (av rfl) ?_);have hMq13:ai _ w46:=ai.rfl_;refine eg (xs:=s1.next.map iV) bj rfl rfl rfl (show World.ownsRow _ 0 3 1 (.slice (some ⟨gX,0,none⟩) s1.next.length _) s1.next.length _ from (hs6.f.x (by decide)).1.kept_from hMq13) (by show k<s1.next.length;omega) ?_;intro w47 Oq13 Pq13;obtain ⟨hs7,h7⟩:=aQ.rowX h6 hs6 hk rfl hMq13 Oq13 (v:=max (s1.mtch[k]) m.ix+1) Pq13;refine ak (ag (an ?_));apply bD 10 [(106,eqp _),(107,eqp _),(108,eqp _),(109,eqp _),(110,eqp _),(111,eqp (.slice (some ⟨gSn,0,none⟩) s1.sent.length Sc)),(112,eqp _),(113,eqp (.int .i64 m.f)),(114,eqp (.int .i64 (k:Nat))),(115,eqp _)] (by repeat first | exact cl | refine ck ?_ | refine bM ?_) (by kernel_rfl) (by kernel_rfl) ⟨ah _,ah _,ah _,ah _,ah _,ah _,ah _,ah _,ah _,ah _,trivial⟩
    case hop=>
     constructor
     ·rintro-w49 D49;exact aq (aB (v:=.pointer _) rfl) rfl
     constructor
     ·rintro-w50 D50;rintro _ rfl;exact aq (av rfl) rfl
     constructor
     ·rintro-w51 D51;rintro _ rfl;exact aq (aa aF rfl) rfl
     constructor
     ·rintro-w52 D52;rintro _ rfl;exact aq (aa az rfl) rfl
     constructor
     ·rintro-w53 D53;rintro _ rfl;exact aq (aa ct rfl) rfl
     constructor
     ·rintro-w54 D54;rintro _ rfl;exact aq (au aR rfl (by exact (show _=some (Value.slice (some ⟨gSn,0,none⟩) s1.sent.length Sc) from ch (hs7.b.from_ (ai.rfl_.next D54)) 17 rfl))) rfl
     constructor
     ·rintro-w55 D55;exact aq (aa br rfl) rfl
     constructor
     ·rintro-w56 D56;rintro _ rfl;exact aq (au ao rfl (by exact (show _=some (Value.int .i64 m.f) from ((h7.kept hzb hm9).from_ (ai.rfl_.next D56)).rd 1 rfl))) rfl
     constructor
     ·rintro-w57 D57;rintro v57_113 rfl;exact aq (eI (cY rfl rfl (by omega)) (bo (by omega))) rfl
     constructor
     ·rintro-w58 D58;rintro v58_111 rfl v58_114 rfl;exact aq (bp aV rfl rfl (by omega)) rfl
     exact trivial
    case hend=>
     intro w59 D59;rintro _ rfl _ rfl _ rfl _ rfl _ rfl v111 rfl _ rfl v113 rfl v114 rfl _ rfl;show St ..;have hMq14:ai _ w59:=(ai.rfl_.next D59);refine eg (xs:=s1.sent.map iV) bj rfl rfl rfl (show World.ownsRow _ 0 3 1 (.slice (some ⟨gSn,0,none⟩) s1.sent.length _) s1.sent.length _ from (hs7.f.n (by decide)).1.kept_from hMq14) (by show k<s1.sent.length;omega) ?_;intro w60 Oq14 Pq14;obtain ⟨hs8,h8⟩:=aQ.rowS h7 hs7 hk rfl hMq14 Oq14 (v:=0) Pq14;refine ak (ag (an (af (mvp rfl (ab (av rfl) (ab (aa aF rfl) ?_))))));have hFO:RfF ({ s1 with mtch:=bK s1.mtch m.f (max (s1.mtch[k]) m.ix),next:=bK s1.next m.f (max (s1.mtch[k]) m.ix+1),sent:=bK s1.sent m.f 0 }:Rf):=((hF1.matchPut (k:=m.f) (v:=max (s1.mtch[k]) m.ix) (by omega)).nextPut (k:=m.f) (v:=max (s1.mtch[k]) m.ix+1) (by show 1≤_∧_≤bd s1+1;omega)).sentPut (k:=m.f) (v:=0) ⟨Int.le_refl _,Int.natCast_nonneg _⟩;refine aC pj (pM wm Z7 T g ({ s1 with mtch:=bK s1.mtch m.f (max (s1.mtch[k]) m.ix),next:=bK s1.next m.f (max (s1.mtch[k]) m.ix+1),sent:=bK s1.sent m.f 0 }:Rf) [] _ (h8.from_ ai.rfl_) _ _ O oc L (hs8.from_ ai.rfl_) hFO hr1) ?_;rintro v119 w61 ⟨rfl,h9,tag9,hs9⟩;refine ak (ag (an (af (mvp rfl (ab (av rfl) ?_)))));have hXc2:=gU (l:=bK s1.next m.f (max (s1.mtch[k]) m.ix+1)) (show World.ownsRow _ 0 3 1 (.slice (some ⟨gX,0,none⟩) (bK s1.next m.f (max (s1.mtch[k]) m.ix+1)).length Xc) _ _ from (hs9.f.x (by decide)).1) (by rw [cZ];omega) (mf hk (by rw [cZ];omega));refine ab (au ao rfl (by exact dg ai.rfl_ hXc2)) ?_;refine mvi rfl (ab (eW rfl rfl) (ak (ag (Bu rfl (fun Q62=>?_) (fun Q62=>?_)))))
     ·refine af (mvp rfl (ab (aa br rfl) (ab (au ao rfl (by exact (show _=some (Value.int .i64 m.f) from ((h9.kept hzb hm9).from_ ai.rfl_).rd 1 rfl))) ?_)));refine aC ke (nM wm Z7 T g ⟨(cn ({ s1 with mtch:=bK s1.mtch m.f (max (s1.mtch[k]) m.ix),next:=bK s1.next m.f (max (s1.mtch[k]) m.ix+1),sent:=bK s1.sent m.f 0 }:Rf)),[]⟩ _ (h9.from_ ai.rfl_) (hFO.settle hr1) hr1 (Nat.zero_le _) m.f (by show 1≤m.f∧m.f≤s1.nodes;omega)) ?_;rintro v128 w63 ⟨rfl,h10⟩;refine ak (cB (dN rfl ?_));have ham:at1 s.mtch m.f=s1.mtch[k]:=by rw [←hatM,hs1e];rfl
      have ham1:at1 s1.mtch m.f=s1.mtch[k]:=hatM;rw [qx hro hk4 hok hi,ham,←hs1e];unfold tx;rw [ham1]
      first
       |(rw [if_pos (by omega)];exact ⟨rfl,h.back hE3 (h10.from_ ai.rfl_) hzi⟩)
       |(rw [if_neg (by omega)];exact ⟨rfl,h.back hE3 (h9.from_ ai.rfl_) hzi⟩)
     refine aN (cB (dN rfl ?_));have ham:at1 s.mtch m.f=s1.mtch[k]:=by rw [←hatM,hs1e];rfl
     have ham1:at1 s1.mtch m.f=s1.mtch[k]:=hatM;rw [qx hro hk4 hok hi,ham,←hs1e];unfold tx;rw [ham1]
     first
      |(rw [if_pos (by omega)];exact ⟨rfl,h.back hE3 (h10.from_ ai.rfl_) hzi⟩)
      |(rw [if_neg (by omega)];exact ⟨rfl,h.back hE3 (h9.from_ ai.rfl_) hzi⟩)
theorem uL (w0:World) (Z:Nat→Prop) (T g:Nat) (s:Rf) (m:Msg) (w:World) (h:aQ w0 Z w T g ⟨s,[]⟩) (hF:RfF s) (hf:1≤m.f∧m.f≤s.nodes) (hk:m.k=4∨m.k=6) (hix:0≤m.ix∧m.ix≤1099511627775) (hma0:0≤m.a):Rt prog 104 [.pointer (some ⟨g,0,none⟩),.agg (bC m).toArray] w fun v w'=>v=.tuple #[]∧aQ w0 Z w' T g (gj s m):=by
 by_cases hro:s.role=2
 ·rcases hk with hk | hk
  ·cases hok:m.ok with
   |false=>exact Aa w0 Z T g s m w h hF hf hro hk hix hok
   |true=>
    by_cases hi:m.ix≤bd s
    ·exact z_ w0 Z T g s m w h hF hf hro hk hix hok hi
    ·exact Ab w0 Z T g s m w h hF hf hro hk hix hok (by omega)
  ·exact zZ w0 Z T g s m w h hF hf hro hk hma0
 ·exact Ad w0 Z T g s m w h hro
end Go.Proofs.YtkpooenofjdpmaaGreat
namespace Go.Proofs.YtkpooenofjdpmaaGreat
open Go.Proofs.Tryz (prog)
open Go.RowKit
open Go.ChangeShapes Go.WideShapes Go.ChangeAt
theorem qX:aP prog 126=true:=by kernel_rfl
theorem kK:aP prog 73=true:=by kernel_rfl
theorem sL:aP prog 74=true:=by kernel_rfl
theorem wU (w0:World) (Z:Nat→Prop) (T g:Nat) (s:Rf) (m:Msg) (w:World) (h:aQ w0 Z w T g ⟨s,[]⟩) (hF:RfF s) (hf:1≤m.f∧m.f≤s.nodes) (hne:m.f≠s.id) (hro:s.role=2) (hkk:m.k=4∨m.k=6) (hix:0≤m.ix∧m.ix≤1099511627775) (hma0:0≤m.a) :
 Rt prog 129 [.pointer (some ⟨g,0,none⟩),.agg (bC m).toArray] w (fun v w'=>v=.tuple #[]∧aQ w0 Z w' T g (gj s m)):=by
 have hnn0:=hF.n;obtain ⟨k,hk⟩:∃ k:Nat,m.f=(k:Int)+1:=⟨(m.f-1).toNat,by omega⟩;refine enter (n:=219) Tryz.func129 rfl rfl rfl (an (af (bQ (v:=.agg _) rfl ?_)));intro b3 w1 E3 hb3 hk3;obtain ⟨wm,hwm⟩:∃ x,x=w1:=⟨_,rfl⟩
 have h3a:=h.at_ (Z':=fun k=>Z k∨k=b3) E3 (fun k hk=>by
  rcases hk with e | e
  ·exact ⟨Nat.lt_of_lt_of_le (h.zw k e) E3.size,.inl e⟩
  ·subst e;exact ⟨hk3.lt,.inr (by omega)⟩)
 obtain ⟨Z7,hZ7⟩:∃ Z7,Z7=fun k=>Z k∨k=b3:=⟨_,rfl⟩
 have h3:aQ wm Z7 w1 T g ⟨s,[]⟩:=by
  rw [hZ7,hwm];exact h3a
 have hzi:∀ k,Z k→Z7 k:=fun k hk=>by rw [hZ7];exact .inl hk
 have hzb:Z7 b3:=by rw [hZ7];exact .inr rfl
 have hE3:ai w wm:=by rw [hwm];exact E3
 have hm9:Blk wm b3 39 (bC m).toArray:=by rw [hwm];exact hk3
 have hm3:=h3.kept hzb hm9;obtain ⟨tag,⟨E,Ec,V,Vc,X,Xc,M,Mc,Sn,Sc,Q,Qc,LL⟩,O,oc,L,hs⟩:=h3.ex;have hrl:=hF.rl;have hrL:LL.map (fun q=>q.1)=s.reads:=hs.f.r (by decide);have hln:LL.length=s.reads.length:=by rw [←hrL,List.length_map]
 obtain ⟨n,hn⟩:∃ n,n=LL.length:=⟨_,rfl⟩;refine ak (ag (an (af (ab (aa br rfl) (ab (au ao rfl (by exact (show _=some (Value.int .i64 m.f) from (hm3.from_ ai.rfl_).rd 1 rfl))) ?_)))));refine ab (cY rfl rfl (by omega)) (dX (t:=10) (v:=.int _ _) (v':=.int .i64 (k:Nat)) rfl (by exact bo (by omega)) ?_);refine asi rfl (ak (ag (an (an (af (asi rfl (ak (ag (bf (cS (G:=Nat×(Nat→Nat)×List (Rd×Option Addr×Nat)) [11,12,13,14,15,16,17,18,19,20,21,22,23,24,25,26,27,28,29,30,31,32,33,34,35,36,37,38,39,40,41,42,43,44,45,46,47,48,49,50,51,52] (fun (i,_,_)=>[(5,.int .i64 (i:Nat))]) (fun (i,tg,L9) w'=>i≤n∧L9.length=n∧aQ wm Z7 w' T g ⟨({ s with reads:=gr (gN m.f m.rd) s.reads i }:Rf),[]⟩∧eX w' Z7 T g tg ⟨({ s with reads:=gr (gN m.f m.rd) s.reads i }:Rf),[]⟩ (⟨E,Ec,V,Vc,X,Xc,M,Mc,Sn,Sc,Q,Qc,L9⟩:Ra) O oc L) (fun (i,_,_)=>n-i) ((0,tag,LL)) ⟨rfl,trivial⟩ ?_ ?_))))))))))
 ·exact ⟨Nat.zero_le _,hn.symm,h3.from_ ai.rfl_,hs.from_ ai.rfl_⟩
 rintro ⟨i,tg,L9⟩ ρ2 w2 ⟨hi,hl9,h5,hs5⟩;refine an (an (af ?_));obtain ⟨wLp,hwLp⟩:∃ x,x=w2:=⟨_,rfl⟩
 have hrQl:∀ w9,ai w2 w9→w9.cell? ⟨g,19,none⟩=some (.slice Q n Qc):=fun w9 hF9=>by
  have h9:=ch (hs5.b.from_ hF9) 19 rfl;rw [show (Ra.L (⟨E,Ec,V,Vc,X,Xc,M,Mc,Sn,Sc,Q,Qc,L9⟩:Ra)).length=n from hl9] at h9;exact h9
 refine mvi rfl (mvp rfl (ab (av rfl) (ab (aa aO rfl) (ab (aa bH rfl) (ab (au du rfl (by exact hrQl _ ai.rfl_)) ?_)))));refine ab (bL eK rfl) (ab (bZ rfl rfl) (ak (ag (Bu rfl (fun Q3=>?_) (fun Q3=>?_)))))
 ·have hrQ:∀ w9,ai w2 w9→w9.cell? ⟨g,19,none⟩=some (.slice Q n Qc):=fun w9 hF9=>by
   have h9:=ch (hs5.b.from_ hF9) 19 rfl;rw [show (Ra.L (⟨E,Ec,V,Vc,X,Xc,M,Mc,Sn,Sc,Q,Qc,L9⟩:Ra)).length=n from hl9] at h9;exact h9
  have hkL:i<L9.length:=by omega
  have hkr:i<s.reads.length:=by omega
  have hm9L:L9.map (fun q=>q.1)=gr (gN m.f m.rd) s.reads i:=hs5.f.r (by decide)
  have h19:L9[i].1=s.reads[i]:=by
   rw [←o5 (f:=gN m.f m.rd) hkr];have:=List.getElem_map (fun q:Rd×Option Addr×Nat=>q.1) (l:=L9) (i:=i) (h:=by rw [List.length_map];exact hkL);rw [←this];simp only [hm9L]
  have hac:=vi hF hkr;rw [←h19] at hac;obtain ⟨gQ,rfl⟩:∃ q,Q=some ⟨q,0,none⟩:=c8 (hs5.f.q (by decide)).1 (by show 0<L9.length;omega);obtain ⟨ba,oa,heq,hcs⟩:=(bm.rd hs5.f).q (by show 0<L9.length;omega);obtain ⟨rfl,rfl⟩:gQ=ba∧0=oa:=by cases heq;exact ⟨rfl,rfl⟩
  have hkO:=(hs5.f.k i hkL (by omega)).1;have hqo:=(hs5.f.q (by decide)).1;refine aN (ag (an (bf (an ?_))));apply bD 12 [(21,eqp _),(22,eqp _),(23,eqp _),(24,eqp _),(25,eqp (.slice (some ⟨gQ,0,none⟩) n Qc)),(26,eqp (.int .i64 (i:Nat))),(27,eqp (.pointer (some ⟨gQ,0+i*4,none⟩))),(28,eqp _),(29,eqp (.int .i64 L9[i].1.rn)),(30,eqp _),(31,eqp (.int .i64 m.rd)),(32,eqp _)] (by repeat first | exact cl | refine ck ?_ | refine bM ?_) (by kernel_rfl) (by kernel_rfl) ⟨ah _,ah _,ah _,ah _,ah _,ah _,ah _,ah _,ah _,ah _,ah _,ah _,trivial⟩
  case hop=>
   constructor
   ·rintro-w5 D5;exact aq (aB (v:=.pointer _) rfl) rfl
   constructor
   ·rintro-w6 D6;rintro _ rfl;exact aq (av rfl) rfl
   constructor
   ·rintro-w7 D7;rintro _ rfl;exact aq (aa aO rfl) rfl
   constructor
   ·rintro-w8 D8;rintro _ rfl;exact aq (aa bH rfl) rfl
   constructor
   ·rintro-w9 D9;rintro _ rfl;exact aq (au du rfl (by exact hrQ _ (ai.rfl_.next D9))) rfl
   constructor
   ·rintro-w10 D10;exact aq (aB (v:=.int _ _) rfl) rfl
   constructor
   ·rintro-w11 D11;rintro v11_25 rfl v11_26 rfl;exact aq (bN eT rfl rfl (by omega)) rfl
   constructor
   ·rintro-w12 D12;rintro v12_27 rfl;exact aq (aa gu rfl) rfl
   constructor
   ·rintro-w13 D13;rintro _ rfl;exact aq (au ao rfl (by exact dg (ai.rfl_.next D13) (hcs i hkL 2 _ rfl))) rfl
   constructor
   ·rintro-w14 D14;exact aq (aa dA rfl) rfl
   constructor
   ·rintro-w15 D15;rintro _ rfl;exact aq (au ao rfl (by exact (show _=some (Value.int .i64 m.rd) from ((h5.kept hzb hm9).from_ (ai.rfl_.next D15)).rd 7 rfl))) rfl
   constructor
   ·rintro-w16 D16;rintro v16_29 rfl v16_31 rfl;exact aq (eW rfl rfl) rfl
   exact trivial
  case hend=>
   intro w17 D17;rintro _ rfl _ rfl _ rfl _ rfl v25 rfl v26 rfl v27 rfl _ rfl v29 rfl _ rfl v31 rfl _ rfl;show St ..;refine ak (ag (Bu rfl (fun Q18=>?_) (fun Q18=>?_)))
   ·have hle:L9[i].1.rn≤m.rd:=by omega
    obtain ⟨zV,hzV⟩:∃ z,z=wLp.heap.size:=⟨_,rfl⟩;apply bD 20 [(33,eqp _),(34,eqp _),(35,eqp _),(36,eqp _),(37,eqp (.slice (some ⟨gQ,0,none⟩) n Qc)),(38,eqp (.int .i64 (i:Nat))),(39,eqp _),(40,eqp _),(41,eqp _),(42,eqp _),(43,eqp (.slice (some ⟨gQ,0,none⟩) n Qc)),(44,eqp (.int .i64 (i:Nat))),(45,eqp (.pointer (some ⟨gQ,0+i*4,none⟩))),(46,eqp _),(47,eqp (.slice L9[i].2.1 L9[i].1.acks.length L9[i].2.2)),(48,eqp _),(49,eqp (.int .i64 m.f)),(50,fun (v:Value) (w':World)=>∃ (A2:Option Addr) (c2:Nat),v=Value.slice A2 (dM L9[i].1.acks m.f).length c2∧w'.ownsRow 0 3 1 (.slice A2 (dM L9[i].1.acks m.f).length c2) (dM L9[i].1.acks m.f).length ((dM L9[i].1.acks m.f).map iV)∧(∀ k,A2.map (·.block)=some k→L9[i].2.1.map (·.block)=some k∨zV≤k)),(51,eqp (.pointer (some ⟨gQ,0+i*4,none⟩))),(52,eqp _)] (by repeat first | exact cl | refine ck ?_ | refine bM ?_) (by kernel_rfl) (by kernel_rfl) ⟨ah _,ah _,ah _,ah _,ah _,ah _,ah _,ah _,ah _,ah _,ah _,ah _,ah _,ah _,ah _,ah _,ah _,(fun _ _ _ hF ⟨A2,c2,h1,h2,h3⟩=>⟨A2,c2,h1,h2.kept_from hF,h3⟩),ah _,ah _,trivial⟩
    case hop=>
     constructor
     ·rintro-w20 D20;exact aq (aB (v:=.pointer _) rfl) rfl
     constructor
     ·rintro-w21 D21;rintro _ rfl;exact aq (av rfl) rfl
     constructor
     ·rintro-w22 D22;rintro _ rfl;exact aq (aa aO rfl) rfl
     constructor
     ·rintro-w23 D23;rintro _ rfl;exact aq (aa bH rfl) rfl
     constructor
     ·rintro-w24 D24;rintro _ rfl;exact aq (au du rfl (by exact hrQ _ ((ai.rfl_.next D17).next D24))) rfl
     constructor
     ·rintro-w25 D25;exact aq (aB (v:=.int _ _) rfl) rfl
     constructor
     ·rintro-w26 D26;exact aq (aB (v:=.pointer _) rfl) rfl
     constructor
     ·rintro-w27 D27;rintro _ rfl;exact aq (av rfl) rfl
     constructor
     ·rintro-w28 D28;rintro _ rfl;exact aq (aa aO rfl) rfl
     constructor
     ·rintro-w29 D29;rintro _ rfl;exact aq (aa bH rfl) rfl
     constructor
     ·rintro-w30 D30;rintro _ rfl;exact aq (au du rfl (by exact hrQ _ ((ai.rfl_.next D17).next D30))) rfl
     constructor
     ·rintro-w31 D31;exact aq (aB (v:=.int _ _) rfl) rfl
     constructor
     ·rintro-w32 D32;rintro v32_43 rfl v32_44 rfl;exact aq (bN eT rfl rfl (by omega)) rfl
     constructor
     ·rintro-w33 D33;rintro v33_45 rfl;exact aq (aa ef rfl) rfl
     constructor
     ·rintro-w34 D34;rintro _ rfl;exact aq (au aR rfl (by exact dg ((ai.rfl_.next D17).next D34) (hcs i hkL 3 _ rfl))) rfl
     constructor
     ·rintro-w35 D35;exact aq (aa br rfl) rfl
     constructor
     ·rintro-w36 D36;rintro _ rfl;exact aq (au ao rfl (by exact (show _=some (Value.int .i64 m.f) from ((h5.kept hzb hm9).from_ ((ai.rfl_.next D17).next D36)).rd 1 rfl))) rfl
     constructor
     ·rintro-w37 D37;rintro v37_47 rfl v37_49 rfl;refine gD qX ((wQ L9[i].2.1 L9[i].2.2 L9[i].1.acks m.f _ (hkO.kept_from ((ai.rfl_.next D17).next D37)) hac.1 (by omega)).mono ?_);rintro v wv ⟨⟨A2,c2,rfl,ho9,hL9⟩,hF9⟩;exact ⟨hF9,A2,c2,rfl,ho9,fun k hk=>(hL9 k hk).imp (fun e=>e) fun e=>Nat.le_trans (by rw [hzV,hwLp];exact (((ai.rfl_.next D17).next D37)).size) e⟩
     constructor
     ·rintro-w38 D38;rintro v38_37 rfl v38_38 rfl;exact aq (bN eT rfl rfl (by omega)) rfl
     constructor
     ·rintro-w39 D39;rintro v39_51 rfl;exact aq (aa ef rfl) rfl
     exact trivial
    case hend=>
     intro w40 D40;rintro _ rfl _ rfl _ rfl _ rfl v37 rfl v38 rfl _ rfl _ rfl _ rfl _ rfl v43 rfl v44 rfl v45 rfl _ rfl v47 rfl _ rfl v49 rfl v50 ⟨A50,c50,rfl,ho50,hL50⟩ v51 rfl _ rfl;show St ..;have hMv:ai _ w40:=((ai.rfl_.next D17).next D40);have hqo6:=hqo.kept_from hMv;refine lz (xs:=L9.flatMap rdV) cV rfl rfl rfl (show World.ownsRow _ 0 54 4 (.slice (some ⟨gQ,0,none⟩) L9.length Qc) L9.length _ from hqo6) (by omega) ?_;intro w41 Oq6 Pq6;have hst:=aQ.ack1 h5 hs5 hkL (ai.toChg hMv) (x:=({ L9[i].1 with acks:=dM L9[i].1.acks m.f },A50,c50)) rfl ho50 (fun k hk=>(hL50 k hk).imp (fun e=>e) fun e=>by rw [hzV,hwLp] at e;exact e) rfl Oq6 (by rw [←tH,←Nat.zero_add (i*4+3),←Nat.add_assoc];exact Pq6);obtain ⟨hs6,h6⟩:=hst;obtain ⟨L6,hL6⟩:∃ L6,L6=L9.set i ({ L9[i].1 with acks:=dM L9[i].1.acks m.f },A50,c50):=⟨_,rfl⟩;have hl6:L6.length=n:=by rw [hL6,List.length_set];exact hl9
     have hm6:(L9.set i ({ L9[i].1 with acks:=dM L9[i].1.acks m.f },A50,c50)).map (fun q=>q.1)=gr (gN m.f m.rd) s.reads (i+1):=by
      rw [List.map_set,hm9L,←o4 hkr]
      congr 1
      rw [←h19];unfold gN;rw [if_pos hle]
     rw [hm6] at hs6 h6;obtain ⟨tg6,hs6⟩:∃ t,eX _ Z7 T g t ⟨({ s with reads:=gr (gN m.f m.rd) s.reads (i+1) }:Rf),[]⟩ ⟨E,Ec,V,Vc,X,Xc,M,Mc,Sn,Sc,some ⟨gQ,0,none⟩,Qc,L6⟩ O oc L:=⟨_,by rw [hL6];exact hs6⟩;refine ak (bq (ag (af (mvi rfl (ab (cF (b:=1) rfl rfl (by omega)) (asi rfl (ak ?_)))))));refine cG ((i+1,tg6,L6)) ⟨(by first | rfl | (refine bo ?_;omega)),trivial⟩ (by (iterate 86 refine bE rfl ?_);exact bX) ⟨?_,?_⟩
     ·exact ⟨by omega,hl6,h6.from_ ai.rfl_,hs6.from_ ai.rfl_⟩
     ·show n-(i+1)<n-i;omega
   have hsame:gr (gN m.f m.rd) s.reads (i+1)=gr (gN m.f m.rd) s.reads i:=qk hkr (by rw [←h19];unfold gN;rw [if_neg (by omega)]);obtain ⟨tg6,L6,hl6,h6,hs6⟩:∃ t l,List.length l=n∧aQ wm Z7 wLp T g ⟨({ s with reads:=gr (gN m.f m.rd) s.reads (i+1) }:Rf),[]⟩∧eX wLp Z7 T g t ⟨({ s with reads:=gr (gN m.f m.rd) s.reads (i+1) }:Rf),[]⟩ ⟨E,Ec,V,Vc,X,Xc,M,Mc,Sn,Sc,some ⟨gQ,0,none⟩,Qc,l⟩ O oc L:=⟨tg,L9,hl9,by rw [hsame,hwLp];exact h5,by rw [hsame,hwLp];exact hs5⟩;rw [hwLp] at h6 hs6;refine aN (bq (ag (af (mvi rfl (ab (cF (b:=1) rfl rfl (by omega)) (asi rfl (ak ?_)))))));refine cG ((i+1,tg6,L6)) ⟨(by first | rfl | (refine bo ?_;omega)),trivial⟩ (by (iterate 66 refine bE rfl ?_);exact bX) ⟨?_,?_⟩
   ·exact ⟨by omega,hl6,h6.from_ (ai.rfl_.next D17),hs6.from_ (ai.rfl_.next D17)⟩
   ·show n-(i+1)<n-i;omega
 obtain rfl:i=n:=by omega
 have e9:gr (gN m.f m.rd) s.reads i=s.reads.map (gN m.f m.rd):=by rw [hn,hln];exact yy
 rw [e9] at h5;have hS9:aQ wm Z7 w2 T g ⟨js s m.f m.rd,[]⟩:=h5.from_ ai.rfl_;clear hs5 h5 hs;obtain ⟨s1,hs1e⟩:∃ x,x=js s m.f m.rd:=⟨_,rfl⟩;have hF1:RfF s1:=by rw [hs1e];exact hF.ack hf
 have hr1:s1.role=2:=by rw [hs1e];exact hro
 have hn1:s1.nodes=s.nodes:=by rw [hs1e];rfl
 have hl1:bd s1=bd s:=by rw [hs1e];rfl
 rw [←hs1e] at hS9;obtain ⟨tag5,⟨E,Ec,V,Vc,X,Xc,M,Mc,Sn,Sc,Q,Qc,LL⟩,O,oc,L,hs5⟩:=hS9.ex;have hll5:=hs5.m.l;have hXl:s1.next.length=s1.nodes.toNat:=by rw [hF1.nx.1,dO hr1]
 have hMl:s1.mtch.length=s1.nodes.toNat:=by rw [hF1.ma.1,dO hr1]
 have hSl:s1.sent.length=s1.nodes.toNat:=by rw [hF1.se.1,dO hr1]
 have hkX:k<s1.next.length:=by omega
 have hkM:k<s1.mtch.length:=by omega
 have hkS:k<s1.sent.length:=by omega
 have hnx:=hF1.nx.2 _ (List.getElem_mem hkX);have hma:=hF1.ma.2 _ (List.getElem_mem hkM);have hnn:=hF1.n;have hbl:=hF1.last;obtain ⟨gX,rfl⟩:∃ q,X=some ⟨q,0,none⟩:=c8 (n:=s1.next.length) (hs5.f.x (by decide)).1 (by omega);obtain ⟨gM,rfl⟩:∃ q,M=some ⟨q,0,none⟩:=c8 (n:=s1.mtch.length) (hs5.f.m (by decide)).1 (by omega);obtain ⟨gSn,rfl⟩:∃ q,Sn=some ⟨q,0,none⟩:=c8 (n:=s1.sent.length) (hs5.f.n (by decide)).1 (by omega);have hXr:World.ownsRow _ 0 3 1 (.slice (some ⟨gX,0,none⟩) s1.next.length Xc) s1.next.length (s1.next.map iV):=(hs5.f.x (by decide)).1;have hMr:World.ownsRow _ 0 3 1 (.slice (some ⟨gM,0,none⟩) s1.mtch.length Mc) s1.mtch.length (s1.mtch.map iV):=(hs5.f.m (by decide)).1;have hXc:=gU hXr hkX rfl;have hMc:=gU hMr hkM rfl;have hatX:=mw (l:=s1.next) hk hkX;have hatM:=mw (l:=s1.mtch) hk hkM;have he5:cH _ (.slice E s1.es.length Ec) s1.es:=(bm.rd hs5.f).e;have hb5:=hs5.b;have hne1:m.f≠s1.id:=by rw [hs1e];exact hne
 have e1:s.next=s1.next:=by rw [hs1e];rfl
 have e2:s.sent=s1.sent:=by rw [hs1e];rfl
 have e3:s.mtch=s1.mtch:=by rw [hs1e];rfl
 have hT6:(m.ix≠s1.b)∨(m.ix=s1.b∧s1.b<s1.next[k])∨(m.ix=s1.b∧s1.next[k]≤s1.b∧(s1.snap.size:Int)<m.a)∨(m.ix=s1.b∧s1.next[k]≤s1.b∧m.a≤(s1.snap.size:Int)):=by
  have:∀ a b c d e:Int,(a≠b)∨(a=b∧b<c)∨(a=b∧c≤b∧d<e)∨(a=b∧c≤b∧e≤d):=fun a b c d e=>by omega
  exact this _ _ _ _ _
 refine cz (bk (bk (bW (ag (an (af (mvp rfl (aC pd (rV T g s1 _ _ _ (hb5.from_ ai.rfl_) (he5.from_ ai.rfl_) hF1.lg) ?_))))))));rintro v55 w42 ⟨rfl,E55⟩;refine mvt rfl (ab (aY rfl rfl) (ab (aY rfl rfl) (asi rfl (asi rfl (ak (ag (bf (an (af (ab (aa cw rfl) (ab (au ao rfl (by exact (show _=some (Value.int .i64 m.k) from ((hS9.kept hzb hm9).from_ (ai.rfl_.next E55)).rd 0 rfl))) ?_)))))))))));refine ab (bh rfl rfl) (asb rfl (ak (ag (Bu rfl (fun Q43=>?_) (fun Q43=>?_)))))
 ·refine an ?_;rcases hT6 with ht | ht | ht | ht
  ·apply bD 37 [(62,eqp _),(63,eqp (.int .i64 m.ix)),(64,eqp _),(65,eqp _),(66,eqp _),(67,eqp _),(68,eqp _),(69,eqp (.int .i64 s1.b)),(70,eqp _),(71,eqp _),(72,eqp _),(73,eqp _),(74,eqp _),(75,eqp _),(76,eqp _),(77,eqp _),(78,eqp _),(79,eqp _),(80,eqp _),(81,eqp _),(82,eqp _),(83,eqp _),(84,eqp _),(85,eqp _),(86,eqp _),(87,eqp _),(88,eqp _),(89,eqp _),(90,eqp _),(91,eqp _),(92,eqp _),(93,eqp _),(94,eqp _),(95,eqp _),(96,eqp _),(97,eqp _),(98,eqp _)] (by repeat first | exact cl | refine ck ?_ | refine bM ?_) (by kernel_rfl) (by kernel_rfl) ⟨ah _,ah _,ah _,ah _,ah _,ah _,ah _,ah _,ah _,ah _,ah _,ah _,ah _,ah _,ah _,ah _,ah _,ah _,ah _,ah _,ah _,ah _,ah _,ah _,ah _,ah _,ah _,ah _,ah _,ah _,ah _,ah _,ah _,ah _,ah _,ah _,ah _,trivial⟩
   case hop=>
    constructor
    ·rintro-w45 D45;exact aq (aa cI rfl) rfl
    constructor
    ·rintro-w46 D46;rintro _ rfl;exact aq (au ao rfl (by exact (show _=some (Value.int .i64 m.ix) from ((hS9.kept hzb hm9).from_ ((ai.rfl_.next E55).next D46)).rd 4 rfl))) rfl
    constructor
    ·rintro-w47 D47;exact aq (aB (v:=.pointer _) rfl) rfl
    constructor
    ·rintro-w48 D48;rintro _ rfl;exact aq (av rfl) rfl
    constructor
    ·rintro-w49 D49;rintro _ rfl;exact aq (aa aO rfl) rfl
    constructor
    ·rintro-w50 D50;rintro _ rfl;exact aq (aa bg rfl) rfl
    constructor
    ·rintro-w51 D51;rintro _ rfl;exact aq (aa bT rfl) rfl
    constructor
    ·rintro-w52 D52;rintro _ rfl;exact aq (au ao rfl (by exact (show _=some (Value.int .i64 s1.b) from (hS9.from_ ((ai.rfl_.next E55).next D52)).rd (fun _=>rfl)))) rfl
    constructor
    ·rintro-w53 D53;rintro v53_63 rfl v53_69 rfl;exact aq (bY (bh rfl rfl) (beq_eq_false_iff_ne.2 (by omega))) rfl
    constructor
    ·rintro-w54 D54;rintro _ rfl;exact aq (aB (v:=.bool _) rfl) rfl
    constructor
    ·rintro-w55 D55;rintro _ rfl;exact bR rfl rfl rfl
    constructor
    ·rintro-w56 D56;rintro _ rfl _ rfl;exact bR rfl rfl rfl
    constructor
    ·rintro-w57 D57;rintro _ rfl _ rfl;exact bR rfl rfl rfl
    constructor
    ·rintro-w58 D58;rintro _ rfl _ rfl;exact bR rfl rfl rfl
    constructor
    ·rintro-w59 D59;rintro _ rfl _ rfl;exact bR rfl rfl rfl
    constructor
    ·rintro-w60 D60;rintro _ rfl;exact bR rfl rfl rfl
    constructor
    ·rintro-w61 D61;rintro _ rfl _ rfl _ rfl;exact bR rfl rfl rfl
    constructor
    ·rintro-w62 D62;rintro _ rfl _ rfl;exact bR rfl rfl rfl
    constructor
    ·rintro-w63 D63;rintro _ rfl;exact bR rfl rfl rfl
    constructor
    ·rintro-w64 D64;rintro _ rfl _ rfl;exact bR rfl rfl rfl
    constructor
    ·rintro-w65 D65;rintro _ rfl _ rfl;exact bR rfl rfl rfl
    constructor
    ·rintro-w66 D66;rintro _ rfl _ rfl;exact bR rfl rfl rfl
    constructor
    ·rintro-w67 D67;rintro _ rfl _ rfl;exact bR rfl rfl rfl
    constructor
    ·rintro-w68 D68;rintro _ rfl _ rfl;exact bR rfl rfl rfl
    constructor
    ·rintro-w69 D69;rintro _ rfl _ rfl _ rfl;exact bR rfl rfl rfl
    constructor
    ·rintro-w70 D70;rintro _ rfl _ rfl;exact aq (ay (v:=.bool _) rfl rfl) rfl
    constructor
    ·rintro-w71 D71;rintro _ rfl;exact aq (aB (v:=.bool _) rfl) rfl
    constructor
    ·rintro-w72 D72;rintro _ rfl;exact bR rfl rfl rfl
    constructor
    ·rintro-w73 D73;rintro _ rfl _ rfl;exact bR rfl rfl rfl
    constructor
    ·rintro-w74 D74;rintro _ rfl;exact bR rfl rfl rfl
    constructor
    ·rintro-w75 D75;rintro _ rfl _ rfl;exact bR rfl rfl rfl
    constructor
    ·rintro-w76 D76;rintro _ rfl _ rfl;exact bR rfl rfl rfl
    constructor
    ·rintro-w77 D77;rintro _ rfl _ rfl;exact bR rfl rfl rfl
    constructor
    ·rintro-w78 D78;rintro _ rfl _ rfl;exact bR rfl rfl rfl
    constructor
    ·rintro-w79 D79;rintro _ rfl _ rfl;exact bR rfl rfl rfl
    constructor
    ·rintro-w80 D80;rintro _ rfl _ rfl _ rfl;exact bR rfl rfl rfl
    constructor
    ·rintro-w81 D81;rintro _ rfl _ rfl;exact aq (ay (v:=.bool _) rfl rfl) rfl
    exact trivial
   case hend=>
    intro w82 D82;rintro _ rfl v63 rfl _ rfl _ rfl _ rfl _ rfl _ rfl v69 rfl _ rfl _ rfl _ rfl _ rfl _ rfl _ rfl _ rfl _ rfl _ rfl _ rfl _ rfl _ rfl _ rfl _ rfl _ rfl _ rfl _ rfl _ rfl _ rfl _ rfl _ rfl _ rfl _ rfl _ rfl _ rfl _ rfl _ rfl _ rfl _ rfl;show St ..;refine ak (ag (bc rfl (aN (bq (cB (dN rfl ?_))))));rw [nW hro (by omega),←hs1e];unfold iX;rw [if_neg (by rw [hatX];omega)];exact ⟨rfl,h.back hE3 (hS9.from_ ((ai.rfl_.next E55).next D82)) hzi⟩
  ·apply bD 37 [(62,eqp _),(63,eqp (.int .i64 m.ix)),(64,eqp _),(65,eqp _),(66,eqp _),(67,eqp _),(68,eqp _),(69,eqp (.int .i64 s1.b)),(70,eqp _),(71,eqp _),(72,eqp _),(73,eqp _),(74,eqp _),(75,eqp _),(76,eqp (.slice (some ⟨gX,0,none⟩) s1.next.length Xc)),(77,eqp (.int .i64 (k:Nat))),(78,eqp _),(79,eqp (.int .i64 s1.next[k])),(80,eqp _),(81,eqp _),(82,eqp _),(83,eqp _),(84,eqp _),(85,eqp (.int .i64 s1.b)),(86,eqp _),(87,eqp _),(88,eqp _),(89,eqp _),(90,eqp _),(91,eqp _),(92,eqp _),(93,eqp _),(94,eqp _),(95,eqp _),(96,eqp _),(97,eqp _),(98,eqp _)] (by repeat first | exact cl | refine ck ?_ | refine bM ?_) (by kernel_rfl) (by kernel_rfl) ⟨ah _,ah _,ah _,ah _,ah _,ah _,ah _,ah _,ah _,ah _,ah _,ah _,ah _,ah _,ah _,ah _,ah _,ah _,ah _,ah _,ah _,ah _,ah _,ah _,ah _,ah _,ah _,ah _,ah _,ah _,ah _,ah _,ah _,ah _,ah _,ah _,ah _,trivial⟩
   case hop=>
    constructor
    ·rintro-w84 D84;exact aq (aa cI rfl) rfl
    constructor
    ·rintro-w85 D85;rintro _ rfl;exact aq (au ao rfl (by exact (show _=some (Value.int .i64 m.ix) from ((hS9.kept hzb hm9).from_ ((ai.rfl_.next E55).next D85)).rd 4 rfl))) rfl
    constructor
    ·rintro-w86 D86;exact aq (aB (v:=.pointer _) rfl) rfl
    constructor
    ·rintro-w87 D87;rintro _ rfl;exact aq (av rfl) rfl
    constructor
    ·rintro-w88 D88;rintro _ rfl;exact aq (aa aO rfl) rfl
    constructor
    ·rintro-w89 D89;rintro _ rfl;exact aq (aa bg rfl) rfl
    constructor
    ·rintro-w90 D90;rintro _ rfl;exact aq (aa bT rfl) rfl
    constructor
    ·rintro-w91 D91;rintro _ rfl;exact aq (au ao rfl (by exact (show _=some (Value.int .i64 s1.b) from (hS9.from_ ((ai.rfl_.next E55).next D91)).rd (fun _=>rfl)))) rfl
    constructor
    ·rintro-w92 D92;rintro v92_63 rfl v92_69 rfl;exact aq (dd (bh rfl rfl) (beq_iff_eq.2 (by omega))) rfl
    constructor
    ·rintro-w93 D93;rintro _ rfl;exact aq (aB (v:=.bool _) rfl) rfl
    constructor
    ·rintro-w94 D94;rintro _ rfl;exact aH rfl (aB (v:=.pointer _) rfl) rfl
    constructor
    ·rintro-w95 D95;rintro _ rfl _ rfl;exact aH rfl (av rfl) rfl
    constructor
    ·rintro-w96 D96;rintro _ rfl _ rfl;exact aH rfl (aa aO rfl) rfl
    constructor
    ·rintro-w97 D97;rintro _ rfl _ rfl;exact aH rfl (aa bw rfl) rfl
    constructor
    ·rintro-w98 D98;rintro _ rfl _ rfl;exact aH rfl (au aR rfl (by exact (show _=some (Value.slice (some ⟨gX,0,none⟩) s1.next.length Xc) from ch (hs5.b.from_ ((ai.rfl_.next E55).next D98)) 15 rfl))) rfl
    constructor
    ·rintro-w99 D99;rintro _ rfl;exact aH rfl (aB (v:=.int _ _) rfl) rfl
    constructor
    ·rintro-w100 D100;rintro _ rfl v100_76 rfl v100_77 rfl;exact aH rfl (bp aV rfl rfl (by omega)) rfl
    constructor
    ·rintro-w101 D101;rintro _ rfl _ rfl;exact aH rfl (au ao rfl (by exact dg ((ai.rfl_.next E55).next D101) hXc)) rfl
    constructor
    ·rintro-w102 D102;rintro _ rfl;exact aH rfl (aB (v:=.pointer _) rfl) rfl
    constructor
    ·rintro-w103 D103;rintro _ rfl _ rfl;exact aH rfl (av rfl) rfl
    constructor
    ·rintro-w104 D104;rintro _ rfl _ rfl;exact aH rfl (aa aO rfl) rfl
    constructor
    ·rintro-w105 D105;rintro _ rfl _ rfl;exact aH rfl (aa bg rfl) rfl
    constructor
    ·rintro-w106 D106;rintro _ rfl _ rfl;exact aH rfl (aa bT rfl) rfl
    constructor
    ·rintro-w107 D107;rintro _ rfl _ rfl;exact aH rfl (au ao rfl (by exact (show _=some (Value.int .i64 s1.b) from (hS9.from_ ((ai.rfl_.next E55).next D107)).rd (fun _=>rfl)))) rfl
    constructor
    ·rintro-w108 D108;rintro _ rfl v108_79 rfl v108_85 rfl;exact aH rfl (bY (eW rfl rfl) (decide_eq_false (by omega))) rfl
    constructor
    ·rintro-w109 D109;rintro _ rfl _ rfl;exact aq (aL (v:=.bool _) rfl rfl) rfl
    constructor
    ·rintro-w110 D110;rintro _ rfl;exact aq (aB (v:=.bool _) rfl) rfl
    constructor
    ·rintro-w111 D111;rintro _ rfl;exact bR rfl rfl rfl
    constructor
    ·rintro-w112 D112;rintro _ rfl _ rfl;exact bR rfl rfl rfl
    constructor
    ·rintro-w113 D113;rintro _ rfl;exact bR rfl rfl rfl
    constructor
    ·rintro-w114 D114;rintro _ rfl _ rfl;exact bR rfl rfl rfl
    constructor
    ·rintro-w115 D115;rintro _ rfl _ rfl;exact bR rfl rfl rfl
    constructor
    ·rintro-w116 D116;rintro _ rfl _ rfl;exact bR rfl rfl rfl
    constructor
    ·rintro-w117 D117;rintro _ rfl _ rfl;exact bR rfl rfl rfl
    constructor
    ·rintro-w118 D118;rintro _ rfl _ rfl;exact bR rfl rfl rfl
    constructor
    ·rintro-w119 D119;rintro _ rfl _ rfl _ rfl;exact bR rfl rfl rfl
    constructor
    ·rintro-w120 D120;rintro _ rfl _ rfl;exact aq (ay (v:=.bool _) rfl rfl) rfl
    exact trivial
   case hend=>
    intro w121 D121;rintro _ rfl v63 rfl _ rfl _ rfl _ rfl _ rfl _ rfl v69 rfl _ rfl _ rfl _ rfl _ rfl _ rfl _ rfl v76 rfl v77 rfl _ rfl v79 rfl _ rfl _ rfl _ rfl _ rfl _ rfl v85 rfl _ rfl _ rfl _ rfl _ rfl _ rfl _ rfl _ rfl _ rfl _ rfl _ rfl _ rfl _ rfl _ rfl;show St ..;refine ak (ag (bc rfl (aN (bq (cB (dN rfl ?_))))));rw [nW hro (by omega),←hs1e];unfold iX;rw [if_neg (by rw [hatX];omega)];exact ⟨rfl,h.back hE3 (hS9.from_ ((ai.rfl_.next E55).next D121)) hzi⟩
  ·apply bD 37 [(62,eqp _),(63,eqp (.int .i64 m.ix)),(64,eqp _),(65,eqp _),(66,eqp _),(67,eqp _),(68,eqp _),(69,eqp (.int .i64 s1.b)),(70,eqp _),(71,eqp _),(72,eqp _),(73,eqp _),(74,eqp _),(75,eqp _),(76,eqp (.slice (some ⟨gX,0,none⟩) s1.next.length Xc)),(77,eqp (.int .i64 (k:Nat))),(78,eqp _),(79,eqp (.int .i64 s1.next[k])),(80,eqp _),(81,eqp _),(82,eqp _),(83,eqp _),(84,eqp _),(85,eqp (.int .i64 s1.b)),(86,eqp _),(87,eqp _),(88,eqp _),(89,eqp _),(90,eqp (.int .i64 m.a)),(91,eqp _),(92,eqp _),(93,eqp _),(94,eqp _),(95,eqp (.string s1.snap)),(96,eqp _),(97,eqp _),(98,eqp _)] (by repeat first | exact cl | refine ck ?_ | refine bM ?_) (by kernel_rfl) (by kernel_rfl) ⟨ah _,ah _,ah _,ah _,ah _,ah _,ah _,ah _,ah _,ah _,ah _,ah _,ah _,ah _,ah _,ah _,ah _,ah _,ah _,ah _,ah _,ah _,ah _,ah _,ah _,ah _,ah _,ah _,ah _,ah _,ah _,ah _,ah _,ah _,ah _,ah _,ah _,trivial⟩
   case hop=>
    constructor
    ·rintro-w123 D123;exact aq (aa cI rfl) rfl
    constructor
    ·rintro-w124 D124;rintro _ rfl;exact aq (au ao rfl (by exact (show _=some (Value.int .i64 m.ix) from ((hS9.kept hzb hm9).from_ ((ai.rfl_.next E55).next D124)).rd 4 rfl))) rfl
    constructor
    ·rintro-w125 D125;exact aq (aB (v:=.pointer _) rfl) rfl
    constructor
    ·rintro-w126 D126;rintro _ rfl;exact aq (av rfl) rfl
    constructor
    ·rintro-w127 D127;rintro _ rfl;exact aq (aa aO rfl) rfl
    constructor
    ·rintro-w128 D128;rintro _ rfl;exact aq (aa bg rfl) rfl
    constructor
    ·rintro-w129 D129;rintro _ rfl;exact aq (aa bT rfl) rfl
    constructor
    ·rintro-w130 D130;rintro _ rfl;exact aq (au ao rfl (by exact (show _=some (Value.int .i64 s1.b) from (hS9.from_ ((ai.rfl_.next E55).next D130)).rd (fun _=>rfl)))) rfl
    constructor
    ·rintro-w131 D131;rintro v131_63 rfl v131_69 rfl;exact aq (dd (bh rfl rfl) (beq_iff_eq.2 (by omega))) rfl
    constructor
    ·rintro-w132 D132;rintro _ rfl;exact aq (aB (v:=.bool _) rfl) rfl
    constructor
    ·rintro-w133 D133;rintro _ rfl;exact aH rfl (aB (v:=.pointer _) rfl) rfl
    constructor
    ·rintro-w134 D134;rintro _ rfl _ rfl;exact aH rfl (av rfl) rfl
    constructor
    ·rintro-w135 D135;rintro _ rfl _ rfl;exact aH rfl (aa aO rfl) rfl
    constructor
    ·rintro-w136 D136;rintro _ rfl _ rfl;exact aH rfl (aa bw rfl) rfl
    constructor
    ·rintro-w137 D137;rintro _ rfl _ rfl;exact aH rfl (au aR rfl (by exact (show _=some (Value.slice (some ⟨gX,0,none⟩) s1.next.length Xc) from ch (hs5.b.from_ ((ai.rfl_.next E55).next D137)) 15 rfl))) rfl
    constructor
    ·rintro-w138 D138;rintro _ rfl;exact aH rfl (aB (v:=.int _ _) rfl) rfl
    constructor
    ·rintro-w139 D139;rintro _ rfl v139_76 rfl v139_77 rfl;exact aH rfl (bp aV rfl rfl (by omega)) rfl
    constructor
    ·rintro-w140 D140;rintro _ rfl _ rfl;exact aH rfl (au ao rfl (by exact dg ((ai.rfl_.next E55).next D140) hXc)) rfl
    constructor
    ·rintro-w141 D141;rintro _ rfl;exact aH rfl (aB (v:=.pointer _) rfl) rfl
    constructor
    ·rintro-w142 D142;rintro _ rfl _ rfl;exact aH rfl (av rfl) rfl
    constructor
    ·rintro-w143 D143;rintro _ rfl _ rfl;exact aH rfl (aa aO rfl) rfl
    constructor
    ·rintro-w144 D144;rintro _ rfl _ rfl;exact aH rfl (aa bg rfl) rfl
    constructor
    ·rintro-w145 D145;rintro _ rfl _ rfl;exact aH rfl (aa bT rfl) rfl
    constructor
    ·rintro-w146 D146;rintro _ rfl _ rfl;exact aH rfl (au ao rfl (by exact (show _=some (Value.int .i64 s1.b) from (hS9.from_ ((ai.rfl_.next E55).next D146)).rd (fun _=>rfl)))) rfl
    constructor
    ·rintro-w147 D147;rintro _ rfl v147_79 rfl v147_85 rfl;exact aH rfl (dd (eW rfl rfl) (decide_eq_true (by omega))) rfl
    constructor
    ·rintro-w148 D148;rintro _ rfl _ rfl;exact aq (aL (v:=.bool _) rfl rfl) rfl
    constructor
    ·rintro-w149 D149;rintro _ rfl;exact aq (aB (v:=.bool _) rfl) rfl
    constructor
    ·rintro-w150 D150;rintro _ rfl;exact aH rfl (aa da rfl) rfl
    constructor
    ·rintro-w151 D151;rintro _ rfl _ rfl;exact aH rfl (au ao rfl (by exact (show _=some (Value.int .i64 m.a) from ((hS9.kept hzb hm9).from_ ((ai.rfl_.next E55).next D151)).rd 10 rfl))) rfl
    constructor
    ·rintro-w152 D152;rintro _ rfl;exact aH rfl (aB (v:=.pointer _) rfl) rfl
    constructor
    ·rintro-w153 D153;rintro _ rfl _ rfl;exact aH rfl (av rfl) rfl
    constructor
    ·rintro-w154 D154;rintro _ rfl _ rfl;exact aH rfl (aa aO rfl) rfl
    constructor
    ·rintro-w155 D155;rintro _ rfl _ rfl;exact aH rfl (aa cO rfl) rfl
    constructor
    ·rintro-w156 D156;rintro _ rfl _ rfl;exact aH rfl (au cD rfl (by exact (show _=some (Value.string s1.snap) from (hS9.from_ ((ai.rfl_.next E55).next D156)).rd (fun _=>rfl)))) rfl
    constructor
    ·rintro-w157 D157;rintro _ rfl v157_95 rfl;exact aH rfl (en (by kernel_rfl) rfl) rfl
    constructor
    ·rintro-w158 D158;rintro _ rfl v158_90 rfl _ rfl;exact aH rfl (bY (eW rfl rfl) (decide_eq_false (by omega))) rfl
    constructor
    ·rintro-w159 D159;rintro _ rfl _ rfl;exact aq (aL (v:=.bool _) rfl rfl) rfl
    exact trivial
   case hend=>
    intro w160 D160;rintro _ rfl v63 rfl _ rfl _ rfl _ rfl _ rfl _ rfl v69 rfl _ rfl _ rfl _ rfl _ rfl _ rfl _ rfl v76 rfl v77 rfl _ rfl v79 rfl _ rfl _ rfl _ rfl _ rfl _ rfl v85 rfl _ rfl _ rfl _ rfl _ rfl v90 rfl _ rfl _ rfl _ rfl _ rfl v95 rfl _ rfl _ rfl _ rfl;show St ..;refine ak (ag (bc rfl (aN (bq (cB (dN rfl ?_))))));rw [nW hro (by omega),←hs1e];unfold iX;rw [if_neg (by rw [hatX];omega)];exact ⟨rfl,h.back hE3 (hS9.from_ ((ai.rfl_.next E55).next D160)) hzi⟩
  apply bD 37 [(62,eqp _),(63,eqp (.int .i64 m.ix)),(64,eqp _),(65,eqp _),(66,eqp _),(67,eqp _),(68,eqp _),(69,eqp (.int .i64 s1.b)),(70,eqp _),(71,eqp _),(72,eqp _),(73,eqp _),(74,eqp _),(75,eqp _),(76,eqp (.slice (some ⟨gX,0,none⟩) s1.next.length Xc)),(77,eqp (.int .i64 (k:Nat))),(78,eqp _),(79,eqp (.int .i64 s1.next[k])),(80,eqp _),(81,eqp _),(82,eqp _),(83,eqp _),(84,eqp _),(85,eqp (.int .i64 s1.b)),(86,eqp _),(87,eqp _),(88,eqp _),(89,eqp _),(90,eqp (.int .i64 m.a)),(91,eqp _),(92,eqp _),(93,eqp _),(94,eqp _),(95,eqp (.string s1.snap)),(96,eqp _),(97,eqp _),(98,eqp _)] (by repeat first | exact cl | refine ck ?_ | refine bM ?_) (by kernel_rfl) (by kernel_rfl) ⟨ah _,ah _,ah _,ah _,ah _,ah _,ah _,ah _,ah _,ah _,ah _,ah _,ah _,ah _,ah _,ah _,ah _,ah _,ah _,ah _,ah _,ah _,ah _,ah _,ah _,ah _,ah _,ah _,ah _,ah _,ah _,ah _,ah _,ah _,ah _,ah _,ah _,trivial⟩
  case hop=>
   constructor
   ·rintro-w162 D162;exact aq (aa cI rfl) rfl
   constructor
   ·rintro-w163 D163;rintro _ rfl;exact aq (au ao rfl (by exact (show _=some (Value.int .i64 m.ix) from ((hS9.kept hzb hm9).from_ ((ai.rfl_.next E55).next D163)).rd 4 rfl))) rfl
   constructor
   ·rintro-w164 D164;exact aq (aB (v:=.pointer _) rfl) rfl
   constructor
   ·rintro-w165 D165;rintro _ rfl;exact aq (av rfl) rfl
   constructor
   ·rintro-w166 D166;rintro _ rfl;exact aq (aa aO rfl) rfl
   constructor
   ·rintro-w167 D167;rintro _ rfl;exact aq (aa bg rfl) rfl
   constructor
   ·rintro-w168 D168;rintro _ rfl;exact aq (aa bT rfl) rfl
   constructor
   ·rintro-w169 D169;rintro _ rfl;exact aq (au ao rfl (by exact (show _=some (Value.int .i64 s1.b) from (hS9.from_ ((ai.rfl_.next E55).next D169)).rd (fun _=>rfl)))) rfl
   constructor
   ·rintro-w170 D170;rintro v170_63 rfl v170_69 rfl;exact aq (dd (bh rfl rfl) (beq_iff_eq.2 (by omega))) rfl
   constructor
   ·rintro-w171 D171;rintro _ rfl;exact aq (aB (v:=.bool _) rfl) rfl
   constructor
   ·rintro-w172 D172;rintro _ rfl;exact aH rfl (aB (v:=.pointer _) rfl) rfl
   constructor
   ·rintro-w173 D173;rintro _ rfl _ rfl;exact aH rfl (av rfl) rfl
   constructor
   ·rintro-w174 D174;rintro _ rfl _ rfl;exact aH rfl (aa aO rfl) rfl
   constructor
   ·rintro-w175 D175;rintro _ rfl _ rfl;exact aH rfl (aa bw rfl) rfl
   constructor
   ·rintro-w176 D176;rintro _ rfl _ rfl;exact aH rfl (au aR rfl (by exact (show _=some (Value.slice (some ⟨gX,0,none⟩) s1.next.length Xc) from ch (hs5.b.from_ ((ai.rfl_.next E55).next D176)) 15 rfl))) rfl
   constructor
   ·rintro-w177 D177;rintro _ rfl;exact aH rfl (aB (v:=.int _ _) rfl) rfl
   constructor
   ·rintro-w178 D178;rintro _ rfl v178_76 rfl v178_77 rfl;exact aH rfl (bp aV rfl rfl (by omega)) rfl
   constructor
   ·rintro-w179 D179;rintro _ rfl _ rfl;exact aH rfl (au ao rfl (by exact dg ((ai.rfl_.next E55).next D179) hXc)) rfl
   constructor
   ·rintro-w180 D180;rintro _ rfl;exact aH rfl (aB (v:=.pointer _) rfl) rfl
   constructor
   ·rintro-w181 D181;rintro _ rfl _ rfl;exact aH rfl (av rfl) rfl
   constructor
   ·rintro-w182 D182;rintro _ rfl _ rfl;exact aH rfl (aa aO rfl) rfl
   constructor
   ·rintro-w183 D183;rintro _ rfl _ rfl;exact aH rfl (aa bg rfl) rfl
   constructor
   ·rintro-w184 D184;rintro _ rfl _ rfl;exact aH rfl (aa bT rfl) rfl
   constructor
   ·rintro-w185 D185;rintro _ rfl _ rfl;exact aH rfl (au ao rfl (by exact (show _=some (Value.int .i64 s1.b) from (hS9.from_ ((ai.rfl_.next E55).next D185)).rd (fun _=>rfl)))) rfl
   constructor
   ·rintro-w186 D186;rintro _ rfl v186_79 rfl v186_85 rfl;exact aH rfl (dd (eW rfl rfl) (decide_eq_true (by omega))) rfl
   constructor
   ·rintro-w187 D187;rintro _ rfl _ rfl;exact aq (aL (v:=.bool _) rfl rfl) rfl
   constructor
   ·rintro-w188 D188;rintro _ rfl;exact aq (aB (v:=.bool _) rfl) rfl
   constructor
   ·rintro-w189 D189;rintro _ rfl;exact aH rfl (aa da rfl) rfl
   constructor
   ·rintro-w190 D190;rintro _ rfl _ rfl;exact aH rfl (au ao rfl (by exact (show _=some (Value.int .i64 m.a) from ((hS9.kept hzb hm9).from_ ((ai.rfl_.next E55).next D190)).rd 10 rfl))) rfl
   constructor
   ·rintro-w191 D191;rintro _ rfl;exact aH rfl (aB (v:=.pointer _) rfl) rfl
   constructor
   ·rintro-w192 D192;rintro _ rfl _ rfl;exact aH rfl (av rfl) rfl
   constructor
   ·rintro-w193 D193;rintro _ rfl _ rfl;exact aH rfl (aa aO rfl) rfl
   constructor
   ·rintro-w194 D194;rintro _ rfl _ rfl;exact aH rfl (aa cO rfl) rfl
   constructor
   ·rintro-w195 D195;rintro _ rfl _ rfl;exact aH rfl (au cD rfl (by exact (show _=some (Value.string s1.snap) from (hS9.from_ ((ai.rfl_.next E55).next D195)).rd (fun _=>rfl)))) rfl
   constructor
   ·rintro-w196 D196;rintro _ rfl v196_95 rfl;exact aH rfl (en (by kernel_rfl) rfl) rfl
   constructor
   ·rintro-w197 D197;rintro _ rfl v197_90 rfl _ rfl;exact aH rfl (dd (eW rfl rfl) (decide_eq_true (by omega))) rfl
   constructor
   ·rintro-w198 D198;rintro _ rfl _ rfl;exact aq (aL (v:=.bool _) rfl rfl) rfl
   exact trivial
  case hend=>
   intro w199 D199;rintro _ rfl v63 rfl _ rfl _ rfl _ rfl _ rfl _ rfl v69 rfl _ rfl _ rfl _ rfl _ rfl _ rfl _ rfl v76 rfl v77 rfl _ rfl v79 rfl _ rfl _ rfl _ rfl _ rfl _ rfl v85 rfl _ rfl _ rfl _ rfl _ rfl v90 rfl _ rfl _ rfl _ rfl _ rfl v95 rfl _ rfl _ rfl _ rfl;show St ..;refine ak (ag (a_ rfl (an ?_)));apply bD 9 [(99,eqp _),(100,eqp _),(101,eqp _),(102,eqp _),(103,eqp (.slice (some ⟨gSn,0,none⟩) s1.sent.length Sc)),(104,eqp (.int .i64 (k:Nat))),(105,eqp _),(106,eqp (.int .i64 m.a)),(107,eqp _)] (by repeat first | exact cl | refine ck ?_ | refine bM ?_) (by kernel_rfl) (by kernel_rfl) ⟨ah _,ah _,ah _,ah _,ah _,ah _,ah _,ah _,ah _,trivial⟩
   case hop=>
    constructor
    ·rintro-w201 D201;exact aq (aB (v:=.pointer _) rfl) rfl
    constructor
    ·rintro-w202 D202;rintro _ rfl;exact aq (av rfl) rfl
    constructor
    ·rintro-w203 D203;rintro _ rfl;exact aq (aa aO rfl) rfl
    constructor
    ·rintro-w204 D204;rintro _ rfl;exact aq (aa ct rfl) rfl
    constructor
    ·rintro-w205 D205;rintro _ rfl;exact aq (au aR rfl (by exact (show _=some (Value.slice (some ⟨gSn,0,none⟩) s1.sent.length Sc) from ch (hs5.b.from_ (((ai.rfl_.next E55).next D199).next D205)) 17 rfl))) rfl
    constructor
    ·rintro-w206 D206;exact aq (aB (v:=.int _ _) rfl) rfl
    constructor
    ·rintro-w207 D207;exact aq (aa da rfl) rfl
    constructor
    ·rintro-w208 D208;rintro _ rfl;exact aq (au ao rfl (by exact (show _=some (Value.int .i64 m.a) from ((hS9.kept hzb hm9).from_ (((ai.rfl_.next E55).next D199).next D208)).rd 10 rfl))) rfl
    constructor
    ·rintro-w209 D209;rintro v209_103 rfl v209_104 rfl;exact aq (bp aV rfl rfl (by omega)) rfl
    exact trivial
   case hend=>
    intro w210 D210;rintro _ rfl _ rfl _ rfl _ rfl v103 rfl v104 rfl _ rfl v106 rfl _ rfl;show St ..;have hMq10:ai _ w210:=(((ai.rfl_.next E55).next D199).next D210);refine eg (xs:=s1.sent.map iV) bj rfl rfl rfl (show World.ownsRow _ 0 3 1 (.slice (some ⟨gSn,0,none⟩) s1.sent.length _) s1.sent.length _ from (hs5.f.n (by decide)).1.kept_from hMq10) (by show k<s1.sent.length;omega) ?_;intro w211 Oq10 Pq10;obtain ⟨hs6,h6⟩:=aQ.rowS hS9 hs5 hk rfl hMq10 Oq10 (v:=m.a) Pq10;refine ak (ag (af (mvp rfl (ab (aa br rfl) (ab (au ao rfl (by exact (show _=some (Value.int .i64 m.f) from ((h6.kept hzb hm9).from_ ai.rfl_).rd 1 rfl))) ?_)))));have hF6:RfF ({ s1 with sent:=bK s1.sent m.f m.a }:Rf):=hF1.sentPut ⟨hma0,by omega⟩;refine aC kK (mK wm Z7 T g ⟨({ s1 with sent:=bK s1.sent m.f m.a }:Rf),[]⟩ _ (h6.from_ ai.rfl_) hF6 hr1 (Nat.zero_le _) m.f (by show 1≤m.f∧m.f≤s1.nodes;omega)) ?_;rintro v111 w212 ⟨rfl,h8⟩;rw [if_neg (show ¬ m.f=(⟨({ s1 with sent:=bK s1.sent m.f m.a }:Rf),[]⟩:Sp).s.id from hne1)] at h8;refine ak (bq (cB (dN rfl ?_)));rw [nW hro (by omega),←hs1e];unfold iX;rw [if_pos ⟨ht.1,by rw [hatX];exact ht.2.1,ht.2.2⟩];exact ⟨rfl,h.back hE3 (h8.from_ ai.rfl_) hzi⟩
 refine an (af (ab (aa fQ rfl) (ab (au eU rfl (by exact (show _=some (Value.bool m.ok) from ((hS9.kept hzb hm9).from_ (ai.rfl_.next E55)).rd 8 rfl))) ?_)));refine ab (cp rfl) (asb rfl (ak (ag (Br rfl (fun Q213=>?_) (fun Q213=>?_)))))
 ·refine an ?_;apply bD 30 [(116,eqp _),(117,eqp _),(118,eqp _),(119,eqp _),(120,eqp (.slice (some ⟨gX,0,none⟩) s1.next.length Xc)),(121,eqp (.int .i64 (k:Nat))),(122,eqp _),(123,eqp _),(124,eqp _),(125,eqp _),(126,eqp (.slice (some ⟨gM,0,none⟩) s1.mtch.length Mc)),(127,eqp (.int .i64 (k:Nat))),(128,eqp _),(129,eqp (.int .i64 s1.mtch[k])),(130,eqp _),(131,eqp _),(132,eqp _),(133,eqp _),(134,eqp _),(135,eqp (.slice (some ⟨gX,0,none⟩) s1.next.length Xc)),(136,eqp (.int .i64 (k:Nat))),(137,eqp _),(138,eqp (.int .i64 s1.next[k])),(139,eqp _),(140,eqp _),(141,eqp (.int .i64 m.ix)),(142,eqp _),(143,eqp _),(144,eqp _),(145,eqp _)] (by repeat first | exact cl | refine ck ?_ | refine bM ?_) (by kernel_rfl) (by kernel_rfl) ⟨ah _,ah _,ah _,ah _,ah _,ah _,ah _,ah _,ah _,ah _,ah _,ah _,ah _,ah _,ah _,ah _,ah _,ah _,ah _,ah _,ah _,ah _,ah _,ah _,ah _,ah _,ah _,ah _,ah _,ah _,trivial⟩
  case hop=>
   constructor
   ·rintro-w215 D215;exact aq (aB (v:=.pointer _) rfl) rfl
   constructor
   ·rintro-w216 D216;rintro _ rfl;exact aq (av rfl) rfl
   constructor
   ·rintro-w217 D217;rintro _ rfl;exact aq (aa aO rfl) rfl
   constructor
   ·rintro-w218 D218;rintro _ rfl;exact aq (aa bw rfl) rfl
   constructor
   ·rintro-w219 D219;rintro _ rfl;exact aq (au aR rfl (by exact (show _=some (Value.slice (some ⟨gX,0,none⟩) s1.next.length Xc) from ch (hs5.b.from_ ((ai.rfl_.next E55).next D219)) 15 rfl))) rfl
   constructor
   ·rintro-w220 D220;exact aq (aB (v:=.int _ _) rfl) rfl
   constructor
   ·rintro-w221 D221;exact aq (aB (v:=.pointer _) rfl) rfl
   constructor
   ·rintro-w222 D222;rintro _ rfl;exact aq (av rfl) rfl
   constructor
   ·rintro-w223 D223;rintro _ rfl;exact aq (aa aO rfl) rfl
   constructor
   ·rintro-w224 D224;rintro _ rfl;exact aq (aa cf rfl) rfl
   constructor
   ·rintro-w225 D225;rintro _ rfl;exact aq (au aR rfl (by exact (show _=some (Value.slice (some ⟨gM,0,none⟩) s1.mtch.length Mc) from ch (hs5.b.from_ ((ai.rfl_.next E55).next D225)) 16 rfl))) rfl
   constructor
   ·rintro-w226 D226;exact aq (aB (v:=.int _ _) rfl) rfl
   constructor
   ·rintro-w227 D227;rintro v227_126 rfl v227_127 rfl;exact aq (bp aV rfl rfl (by omega)) rfl
   constructor
   ·rintro-w228 D228;rintro _ rfl;exact aq (au ao rfl (by exact dg ((ai.rfl_.next E55).next D228) hMc)) rfl
   constructor
   ·rintro-w229 D229;rintro v229_129 rfl;exact aq (b0 rfl rfl (by omega)) rfl
   constructor
   ·rintro-w230 D230;exact aq (aB (v:=.pointer _) rfl) rfl
   constructor
   ·rintro-w231 D231;rintro _ rfl;exact aq (av rfl) rfl
   constructor
   ·rintro-w232 D232;rintro _ rfl;exact aq (aa aO rfl) rfl
   constructor
   ·rintro-w233 D233;rintro _ rfl;exact aq (aa bw rfl) rfl
   constructor
   ·rintro-w234 D234;rintro _ rfl;exact aq (au aR rfl (by exact (show _=some (Value.slice (some ⟨gX,0,none⟩) s1.next.length Xc) from ch (hs5.b.from_ ((ai.rfl_.next E55).next D234)) 15 rfl))) rfl
   constructor
   ·rintro-w235 D235;exact aq (aB (v:=.int _ _) rfl) rfl
   constructor
   ·rintro-w236 D236;rintro v236_135 rfl v236_136 rfl;exact aq (bp aV rfl rfl (by omega)) rfl
   constructor
   ·rintro-w237 D237;rintro _ rfl;exact aq (au ao rfl (by exact dg ((ai.rfl_.next E55).next D237) hXc)) rfl
   constructor
   ·rintro-w238 D238;rintro v238_138 rfl;exact aq (cY rfl rfl (by omega)) rfl
   constructor
   ·rintro-w239 D239;exact aq (aa cI rfl) rfl
   constructor
   ·rintro-w240 D240;rintro _ rfl;exact aq (au ao rfl (by exact (show _=some (Value.int .i64 m.ix) from ((hS9.kept hzb hm9).from_ ((ai.rfl_.next E55).next D240)).rd 4 rfl))) rfl
   constructor
   ·rintro-w241 D241;rintro v241_141 rfl;exact aq (b0 rfl rfl (by omega)) rfl
   constructor
   ·rintro-w242 D242;rintro _ rfl _ rfl;exact aq (iE rfl rfl) rfl
   constructor
   ·rintro-w243 D243;rintro _ rfl _ rfl;exact aq (lA rfl rfl) rfl
   constructor
   ·rintro-w244 D244;rintro v244_120 rfl v244_121 rfl;exact aq (bp aV rfl rfl (by omega)) rfl
   exact trivial
  case hend=>
   intro w245 D245;rintro _ rfl _ rfl _ rfl _ rfl v120 rfl v121 rfl _ rfl _ rfl _ rfl _ rfl v126 rfl v127 rfl _ rfl v129 rfl _ rfl _ rfl _ rfl _ rfl _ rfl v135 rfl v136 rfl _ rfl v138 rfl _ rfl _ rfl v141 rfl _ rfl _ rfl _ rfl _ rfl;show St ..;have hMq13:ai _ w245:=((ai.rfl_.next E55).next D245);refine eg (xs:=s1.next.map iV) bj rfl rfl rfl (show World.ownsRow _ 0 3 1 (.slice (some ⟨gX,0,none⟩) s1.next.length _) s1.next.length _ from (hs5.f.x (by decide)).1.kept_from hMq13) (by show k<s1.next.length;omega) ?_;intro w246 Oq13 Pq13;obtain ⟨hs6,h6⟩:=aQ.rowX hS9 hs5 hk rfl hMq13 Oq13 (v:=max (s1.mtch[k]+1) (min (s1.next[k]-1) (m.ix+1))) Pq13;refine ak (ag (an (af (mvp rfl (ab (av rfl) (ab (aa aO rfl) (ab (aa ct rfl) (ab (au aR rfl (by exact (show _=some (Value.slice (some ⟨gSn,0,none⟩) s1.sent.length Sc) from ch (hs6.b.from_ ai.rfl_) 17 rfl))) ?_))))))));refine mvi rfl (ab (bp aV rfl rfl (by omega)) ?_);have hMq14:ai _ w246:=ai.rfl_;refine eg (xs:=s1.sent.map iV) bj rfl rfl rfl (show World.ownsRow _ 0 3 1 (.slice (some ⟨gSn,0,none⟩) s1.sent.length _) s1.sent.length _ from (hs6.f.n (by decide)).1.kept_from hMq14) (by show k<s1.sent.length;omega) ?_;intro w247 Oq14 Pq14;obtain ⟨hs7,h7⟩:=aQ.rowS h6 hs6 hk rfl hMq14 Oq14 (v:=0) Pq14;refine ak (ag (af (mvp rfl (ab (aa br rfl) (ab (au ao rfl (by exact (show _=some (Value.int .i64 m.f) from ((h7.kept hzb hm9).from_ ai.rfl_).rd 1 rfl))) ?_)))));have hFN:RfF ({ s1 with next:=bK s1.next m.f (max (s1.mtch[k]+1) (min (s1.next[k]-1) (m.ix+1))),sent:=bK s1.sent m.f 0 }:Rf):=(hF1.nextPut (k:=m.f) (v:=max (s1.mtch[k]+1) (min (s1.next[k]-1) (m.ix+1))) (by show 1≤_∧_≤bd s1+1;omega)).sentPut (k:=m.f) (v:=0) ⟨Int.le_refl _,Int.natCast_nonneg _⟩;refine aC kK (mK wm Z7 T g ⟨({ s1 with next:=bK s1.next m.f (max (s1.mtch[k]+1) (min (s1.next[k]-1) (m.ix+1))),sent:=bK s1.sent m.f 0 }:Rf),[]⟩ _ (h7.from_ ai.rfl_) hFN hr1 (Nat.zero_le _) m.f (by show 1≤m.f∧m.f≤s1.nodes;omega)) ?_;rintro v156 w248 ⟨rfl,h8⟩;rw [if_neg (show ¬ m.f=(⟨({ s1 with next:=bK s1.next m.f (max (s1.mtch[k]+1) (min (s1.next[k]-1) (m.ix+1))),sent:=bK s1.sent m.f 0 }:Rf),[]⟩:Sp).s.id from hne1)] at h8;refine ak (bq (cB (dN rfl ?_)));have hokf:m.ok=false:=by first | assumption | simp_all
   have ev:max (min (s1.next[k]-1) (m.ix+1)) (s1.mtch[k]+1)=max (s1.mtch[k]+1) (min (s1.next[k]-1) (m.ix+1)):=by omega
   rw [wC hro (by omega) hokf,←hs1e,e1,e2,e3,hatX,hatM,ev];exact ⟨rfl,h.back hE3 (h8.from_ ai.rfl_) hzi⟩
 refine an (af (ab (aa cI rfl) (ab (au ao rfl (by exact (show _=some (Value.int .i64 m.ix) from ((hS9.kept hzb hm9).from_ (ai.rfl_.next E55)).rd 4 rfl))) ?_)));refine mvi rfl (ab (eW rfl rfl) (asb rfl (ak (ag (Bu rfl (fun Q249=>?_) (fun Q249=>?_))))))
 ·refine an ?_;apply bD 18 [(162,eqp _),(163,eqp _),(164,eqp _),(165,eqp _),(166,eqp (.slice (some ⟨gM,0,none⟩) s1.mtch.length Mc)),(167,eqp (.int .i64 (k:Nat))),(168,eqp _),(169,eqp _),(170,eqp _),(171,eqp _),(172,eqp (.slice (some ⟨gM,0,none⟩) s1.mtch.length Mc)),(173,eqp (.int .i64 (k:Nat))),(174,eqp _),(175,eqp (.int .i64 s1.mtch[k])),(176,eqp _),(177,eqp (.int .i64 m.ix)),(178,eqp _),(179,eqp _)] (by repeat first | exact cl | refine ck ?_ | refine bM ?_) (by kernel_rfl) (by kernel_rfl) ⟨ah _,ah _,ah _,ah _,ah _,ah _,ah _,ah _,ah _,ah _,ah _,ah _,ah _,ah _,ah _,ah _,ah _,ah _,trivial⟩
  case hop=>
   constructor
   ·rintro-w251 D251;exact aq (aB (v:=.pointer _) rfl) rfl
   constructor
   ·rintro-w252 D252;rintro _ rfl;exact aq (av rfl) rfl
   constructor
   ·rintro-w253 D253;rintro _ rfl;exact aq (aa aO rfl) rfl
   constructor
   ·rintro-w254 D254;rintro _ rfl;exact aq (aa cf rfl) rfl
   constructor
   ·rintro-w255 D255;rintro _ rfl;exact aq (au aR rfl (by exact (show _=some (Value.slice (some ⟨gM,0,none⟩) s1.mtch.length Mc) from ch (hs5.b.from_ ((ai.rfl_.next E55).next D255)) 16 rfl))) rfl
   constructor
   ·rintro-w256 D256;exact aq (aB (v:=.int _ _) rfl) rfl
   constructor
   ·rintro-w257 D257;exact aq (aB (v:=.pointer _) rfl) rfl
   constructor
   ·rintro-w258 D258;rintro _ rfl;exact aq (av rfl) rfl
   constructor
   ·rintro-w259 D259;rintro _ rfl;exact aq (aa aO rfl) rfl
   constructor
   ·rintro-w260 D260;rintro _ rfl;exact aq (aa cf rfl) rfl
   constructor
   ·rintro-w261 D261;rintro _ rfl;exact aq (au aR rfl (by exact (show _=some (Value.slice (some ⟨gM,0,none⟩) s1.mtch.length Mc) from ch (hs5.b.from_ ((ai.rfl_.next E55).next D261)) 16 rfl))) rfl
   constructor
   ·rintro-w262 D262;exact aq (aB (v:=.int _ _) rfl) rfl
   constructor
   ·rintro-w263 D263;rintro v263_172 rfl v263_173 rfl;exact aq (bp aV rfl rfl (by omega)) rfl
   constructor
   ·rintro-w264 D264;rintro _ rfl;exact aq (au ao rfl (by exact dg ((ai.rfl_.next E55).next D264) hMc)) rfl
   constructor
   ·rintro-w265 D265;exact aq (aa cI rfl) rfl
   constructor
   ·rintro-w266 D266;rintro _ rfl;exact aq (au ao rfl (by exact (show _=some (Value.int .i64 m.ix) from ((hS9.kept hzb hm9).from_ ((ai.rfl_.next E55).next D266)).rd 4 rfl))) rfl
   constructor
   ·rintro-w267 D267;rintro v267_175 rfl v267_177 rfl;exact aq (lA rfl rfl) rfl
   constructor
   ·rintro-w268 D268;rintro v268_166 rfl v268_167 rfl;exact aq (bp aV rfl rfl (by omega)) rfl
   exact trivial
  case hend=>
   intro w269 D269;rintro _ rfl _ rfl _ rfl _ rfl v166 rfl v167 rfl _ rfl _ rfl _ rfl _ rfl v172 rfl v173 rfl _ rfl v175 rfl _ rfl v177 rfl _ rfl _ rfl;show St ..;have hMq17:ai _ w269:=((ai.rfl_.next E55).next D269);refine eg (xs:=s1.mtch.map iV) bj rfl rfl rfl (show World.ownsRow _ 0 3 1 (.slice (some ⟨gM,0,none⟩) s1.mtch.length _) s1.mtch.length _ from (hs5.f.m (by decide)).1.kept_from hMq17) (by show k<s1.mtch.length;omega) ?_;intro w270 Oq17 Pq17;obtain ⟨hs6,h6⟩:=aQ.rowM hS9 hs5 hk rfl hMq17 Oq17 (v:=max (s1.mtch[k]) m.ix) Pq17;have hMc2:=gU (l:=bK s1.mtch m.f (max (s1.mtch[k]) m.ix)) (show World.ownsRow _ 0 3 1 (.slice (some ⟨gM,0,none⟩) (bK s1.mtch m.f (max (s1.mtch[k]) m.ix)).length Mc) _ _ from (hs6.f.m (by decide)).1) (by rw [cZ];omega) (mf hk (by rw [cZ];omega));refine ak (ag (an ?_));apply bD 16 [(180,eqp _),(181,eqp _),(182,eqp _),(183,eqp _),(184,eqp (.slice (some ⟨gX,0,none⟩) s1.next.length Xc)),(185,eqp (.int .i64 (k:Nat))),(186,eqp _),(187,eqp _),(188,eqp _),(189,eqp _),(190,eqp (.slice (some ⟨gM,0,none⟩) (bK s1.mtch m.f (max (s1.mtch[k]) m.ix)).length Mc)),(191,eqp (.int .i64 (k:Nat))),(192,eqp _),(193,eqp (.int .i64 (max (s1.mtch[k]) m.ix))),(194,eqp _),(195,eqp _)] (by repeat first | exact cl | refine ck ?_ | refine bM ?_) (by kernel_rfl) (by kernel_rfl) ⟨ah _,ah _,ah _,ah _,ah _,ah _,ah _,ah _,ah _,ah _,ah _,ah _,ah _,ah _,ah _,ah _,trivial⟩
   case hop=>
    constructor
    ·rintro-w272 D272;exact aq (aB (v:=.pointer _) rfl) rfl
    constructor
    ·rintro-w273 D273;rintro _ rfl;exact aq (av rfl) rfl
    constructor
    ·rintro-w274 D274;rintro _ rfl;exact aq (aa aO rfl) rfl
    constructor
    ·rintro-w275 D275;rintro _ rfl;exact aq (aa bw rfl) rfl
    constructor
    ·rintro-w276 D276;rintro _ rfl;exact aq (au aR rfl (by exact (show _=some (Value.slice (some ⟨gX,0,none⟩) s1.next.length Xc) from by have h9:=ch (hs6.b.from_ (ai.rfl_.next D276)) 15 rfl;exact h9))) rfl
    constructor
    ·rintro-w277 D277;exact aq (aB (v:=.int _ _) rfl) rfl
    constructor
    ·rintro-w278 D278;exact aq (aB (v:=.pointer _) rfl) rfl
    constructor
    ·rintro-w279 D279;rintro _ rfl;exact aq (av rfl) rfl
    constructor
    ·rintro-w280 D280;rintro _ rfl;exact aq (aa aO rfl) rfl
    constructor
    ·rintro-w281 D281;rintro _ rfl;exact aq (aa cf rfl) rfl
    constructor
    ·rintro-w282 D282;rintro _ rfl;exact aq (au aR rfl (by exact (show _=some (Value.slice (some ⟨gM,0,none⟩) (bK s1.mtch m.f (max (s1.mtch[k]) m.ix)).length Mc) from ch (hs6.b.from_ (ai.rfl_.next D282)) 16 rfl))) rfl
    constructor
    ·rintro-w283 D283;exact aq (aB (v:=.int _ _) rfl) rfl
    constructor
    ·rintro-w284 D284;rintro v284_190 rfl v284_191 rfl;exact aq (bp aV rfl rfl (by rw [cZ];omega)) rfl
    constructor
    ·rintro-w285 D285;rintro _ rfl;exact aq (au ao rfl (by exact dg (ai.rfl_.next D285) hMc2)) rfl
    constructor
    ·rintro-w286 D286;rintro v286_193 rfl;exact aq (b0 rfl rfl (by omega)) rfl
    constructor
    ·rintro-w287 D287;rintro v287_184 rfl v287_185 rfl;exact aq (bp aV rfl rfl (by omega)) rfl
    exact trivial
   case hend=>
    intro w288 D288;rintro _ rfl _ rfl _ rfl _ rfl v184 rfl v185 rfl _ rfl _ rfl _ rfl _ rfl v190 rfl v191 rfl _ rfl v193 rfl _ rfl _ rfl;show St ..;have hMq18:ai _ w288:=(ai.rfl_.next D288);refine eg (xs:=s1.next.map iV) bj rfl rfl rfl (show World.ownsRow _ 0 3 1 (.slice (some ⟨gX,0,none⟩) s1.next.length _) s1.next.length _ from (hs6.f.x (by decide)).1.kept_from hMq18) (by show k<s1.next.length;omega) ?_;intro w289 Oq18 Pq18;obtain ⟨hs7,h7⟩:=aQ.rowX h6 hs6 hk rfl hMq18 Oq18 (v:=max (s1.mtch[k]) m.ix+1) Pq18;refine ak (ag (an (af (mvp rfl (ab (av rfl) (ab (aa aO rfl) (ab (aa ct rfl) (ab (au aR rfl (by exact (show _=some (Value.slice (some ⟨gSn,0,none⟩) s1.sent.length Sc) from ch (hs7.b.from_ ai.rfl_) 17 rfl))) ?_))))))));refine mvi rfl (ab (bp aV rfl rfl (by omega)) ?_);have hMq19:ai _ w289:=ai.rfl_;refine eg (xs:=s1.sent.map iV) bj rfl rfl rfl (show World.ownsRow _ 0 3 1 (.slice (some ⟨gSn,0,none⟩) s1.sent.length _) s1.sent.length _ from (hs7.f.n (by decide)).1.kept_from hMq19) (by show k<s1.sent.length;omega) ?_;intro w290 Oq19 Pq19;obtain ⟨hs8,h8⟩:=aQ.rowS h7 hs7 hk rfl hMq19 Oq19 (v:=0) Pq19;refine ak (ag (an (af (mvp rfl ?_))));have hFO:RfF ({ s1 with mtch:=bK s1.mtch m.f (max (s1.mtch[k]) m.ix),next:=bK s1.next m.f (max (s1.mtch[k]) m.ix+1),sent:=bK s1.sent m.f 0 }:Rf):=((hF1.matchPut (k:=m.f) (v:=max (s1.mtch[k]) m.ix) (by omega)).nextPut (k:=m.f) (v:=max (s1.mtch[k]) m.ix+1) (by show 1≤_∧_≤bd s1+1;omega)).sentPut (k:=m.f) (v:=0) ⟨Int.le_refl _,Int.natCast_nonneg _⟩;refine aC sL (tD wm Z7 T g ({ s1 with mtch:=bK s1.mtch m.f (max (s1.mtch[k]) m.ix),next:=bK s1.next m.f (max (s1.mtch[k]) m.ix+1),sent:=bK s1.sent m.f 0 }:Rf) [] _ (h8.from_ ai.rfl_) _ _ O oc L (hs8.from_ ai.rfl_) hFO hr1) ?_;rintro v204 w291 ⟨rfl,h9,tag9,hs9⟩;have hXc2:=gU (l:=bK s1.next m.f (max (s1.mtch[k]) m.ix+1)) (show World.ownsRow _ 0 3 1 (.slice (some ⟨gX,0,none⟩) (bK s1.next m.f (max (s1.mtch[k]) m.ix+1)).length Xc) _ _ from (hs9.f.x (by decide)).1) (by rw [cZ];omega) (mf hk (by rw [cZ];omega));refine ak (ag (an (af (mvp rfl (ab (av rfl) (ab (aa aO rfl) (ab (aa bw rfl) (ab (au aR rfl (by exact (show _=some (Value.slice (some ⟨gX,0,none⟩) (bK s1.next m.f (max (s1.mtch[k]) m.ix+1)).length Xc) from ch (hs9.b.from_ ai.rfl_) 15 rfl))) ?_))))))));refine mvi rfl (ab (bp aV rfl rfl (by rw [cZ];omega)) ?_);refine ab (au ao rfl (by exact dg ai.rfl_ hXc2)) ?_;refine mvi rfl (ab (eW rfl rfl) (ak (ag (Bu rfl (fun Q292=>?_) (fun Q292=>?_)))))
    ·refine af (mvp rfl (ab (aa br rfl) (ab (au ao rfl (by exact (show _=some (Value.int .i64 m.f) from ((h9.kept hzb hm9).from_ ai.rfl_).rd 1 rfl))) ?_)));refine aC kK (mK wm Z7 T g ⟨(cn ({ s1 with mtch:=bK s1.mtch m.f (max (s1.mtch[k]) m.ix),next:=bK s1.next m.f (max (s1.mtch[k]) m.ix+1),sent:=bK s1.sent m.f 0 }:Rf)),[]⟩ _ (h9.from_ ai.rfl_) (hFO.settle hr1) hr1 (Nat.zero_le _) m.f (by show 1≤m.f∧m.f≤s1.nodes;omega)) ?_;rintro v218 w293 ⟨rfl,h10⟩;rw [if_neg (show ¬ m.f=(⟨(cn ({ s1 with mtch:=bK s1.mtch m.f (max (s1.mtch[k]) m.ix),next:=bK s1.next m.f (max (s1.mtch[k]) m.ix+1),sent:=bK s1.sent m.f 0 }:Rf)),[]⟩:Sp).s.id from hne1)] at h10;refine ak (bq (cB (dN rfl ?_)));have hokt:m.ok=true:=by first | assumption | simp_all
     rw [qx hro (by omega) hokt (by omega),←hs1e,e3,hatM];unfold tx;rw [hatM];rw [if_pos (by omega)];exact ⟨rfl,h.back hE3 (h10.from_ ai.rfl_) hzi⟩
    refine aN (bq (cB (dN rfl ?_)));have hokt:m.ok=true:=by first | assumption | simp_all
    rw [qx hro (by omega) hokt (by omega),←hs1e,e3,hatM];unfold tx;rw [hatM];rw [if_neg (by omega)];exact ⟨rfl,h.back hE3 (h9.from_ ai.rfl_) hzi⟩
 refine aN (bq (cB (dN rfl ?_)));have hokt:m.ok=true:=by first | assumption | simp_all
 rw [wD hro (by omega) hokt (by omega),←hs1e];exact ⟨rfl,h.back hE3 (hS9.from_ (ai.rfl_.next E55)) hzi⟩
theorem mx:aP prog 104=true:=by kernel_rfl
theorem qY:aP prog 129=true:=by kernel_rfl
theorem q_:aP prog 124=true:=by kernel_rfl
theorem lO {s:Rf} {m:Msg} (h:s.term=m.tm) (hk:m.k=4∨m.k=6):cW s m=gj s m:=by
 unfold cW;simp only;rw [if_neg (show ¬ s.term<m.tm by omega),if_neg (show ¬ m.tm<s.term by omega),if_neg (by omega),if_neg (by omega),if_neg (by omega)]
theorem yR (w0:World) (Z:Nat→Prop) (T g:Nat) (s:Rf) (m:Msg) (w:World) (h:aQ w0 Z w T g ⟨s,[]⟩) (hF:RfF s) (_:m.tm≤1099511627775) (hk:m.k=6) (hf:1≤m.f∧m.f≤s.nodes) (hix:0≤m.ix∧m.ix≤1099511627775) (hma0:0≤m.a) (hgt:s.term=m.tm) :
 Rt prog 58 [.pointer (some ⟨g,0,none⟩),.agg (bC m).toArray] w (fun v w'=>v=.tuple #[]∧aQ w0 Z w' T g (cW s m)):=by
 refine enter (n:=55) Tryz.func58 rfl rfl rfl (an (af (bQ (v:=.agg _) rfl ?_)));intro b3 w1 E3 hb3 hk3;obtain ⟨wm,hwm⟩:∃ x,x=w1:=⟨_,rfl⟩
 have h3a:=h.at_ (Z':=fun k=>Z k∨k=b3) E3 (fun k hk=>by
  rcases hk with e | e
  ·exact ⟨Nat.lt_of_lt_of_le (h.zw k e) E3.size,.inl e⟩
  ·subst e;exact ⟨hk3.lt,.inr (by omega)⟩)
 obtain ⟨Z7,hZ7⟩:∃ Z7,Z7=fun k=>Z k∨k=b3:=⟨_,rfl⟩
 have h3:aQ wm Z7 w1 T g ⟨s,[]⟩:=by
  rw [hZ7,hwm];exact h3a
 have hzi:∀ k,Z k→Z7 k:=fun k hk=>by rw [hZ7];exact .inl hk
 have hzb:Z7 b3:=by rw [hZ7];exact .inr rfl
 have hE3:ai w wm:=by rw [hwm];exact E3
 have hm9:Blk wm b3 39 (bC m).toArray:=by rw [hwm];exact hk3
 have hm3:=h3.kept hzb hm9;refine ak (ag (an (an ?_)))
 skip
 apply bD 9 [(4,eqp _),(5,eqp (.int .i64 m.tm)),(6,eqp _),(7,eqp _),(8,eqp _),(9,eqp _),(10,eqp _),(11,eqp (.int .i64 s.term)),(12,eqp _)] (by repeat first | exact cl | refine ck ?_ | refine bM ?_) (by kernel_rfl) (by kernel_rfl) ⟨ah _,ah _,ah _,ah _,ah _,ah _,ah _,ah _,ah _,trivial⟩
 case hop=>
  constructor
  ·rintro-w3 D3;exact aq (aa cd rfl) rfl
  constructor
  ·rintro-w4 D4;rintro _ rfl;exact aq (au ao rfl (by exact (show _=some (Value.int .i64 m.tm) from (hm3.from_ (ai.rfl_.next D4)).rd 3 rfl))) rfl
  constructor
  ·rintro-w5 D5;exact aq (aB (v:=.pointer _) rfl) rfl
  constructor
  ·rintro-w6 D6;rintro _ rfl;exact aq (av rfl) rfl
  constructor
  ·rintro-w7 D7;rintro _ rfl;exact aq (aa aF rfl) rfl
  constructor
  ·rintro-w8 D8;rintro _ rfl;exact aq (aa az rfl) rfl
  constructor
  ·rintro-w9 D9;rintro _ rfl;exact aq (aa bJ rfl) rfl
  constructor
  ·rintro-w10 D10;rintro _ rfl;exact aq (au ao rfl (by exact (show _=some (Value.int .i64 s.term) from (h3.from_ (ai.rfl_.next D10)).rd (fun _=>rfl)))) rfl
  constructor
  ·rintro-w11 D11;rintro v11_5 rfl v11_11 rfl;exact aq (bY (cy rfl rfl) (decide_eq_false (by omega))) rfl
  exact trivial
 case hend=>
  intro w12 D12;rintro _ rfl v5 rfl _ rfl _ rfl _ rfl _ rfl _ rfl v11 rfl _ rfl;show St ..;refine ak (ag (bc rfl (aN (ag (an (an ?_))))))
  skip
  apply bD 9 [(19,eqp _),(20,eqp (.int .i64 m.tm)),(21,eqp _),(22,eqp _),(23,eqp _),(24,eqp _),(25,eqp _),(26,eqp (.int .i64 s.term)),(27,eqp _)] (by repeat first | exact cl | refine ck ?_ | refine bM ?_) (by kernel_rfl) (by kernel_rfl) ⟨ah _,ah _,ah _,ah _,ah _,ah _,ah _,ah _,ah _,trivial⟩
  case hop=>
   constructor
   ·rintro-w14 D14;exact aq (aa cd rfl) rfl
   constructor
   ·rintro-w15 D15;rintro _ rfl;exact aq (au ao rfl (by exact (show _=some (Value.int .i64 m.tm) from ((h3.kept hzb hm9).from_ ((ai.rfl_.next D12).next D15)).rd 3 rfl))) rfl
   constructor
   ·rintro-w16 D16;exact aq (aB (v:=.pointer _) rfl) rfl
   constructor
   ·rintro-w17 D17;rintro _ rfl;exact aq (av rfl) rfl
   constructor
   ·rintro-w18 D18;rintro _ rfl;exact aq (aa aF rfl) rfl
   constructor
   ·rintro-w19 D19;rintro _ rfl;exact aq (aa az rfl) rfl
   constructor
   ·rintro-w20 D20;rintro _ rfl;exact aq (aa bJ rfl) rfl
   constructor
   ·rintro-w21 D21;rintro _ rfl;exact aq (au ao rfl (by exact (show _=some (Value.int .i64 s.term) from (h3.from_ ((ai.rfl_.next D12).next D21)).rd (fun _=>rfl)))) rfl
   constructor
   ·rintro-w22 D22;rintro v22_20 rfl v22_26 rfl;exact aq (bY (bZ rfl rfl) (decide_eq_false (by have:=fP s m.tm;omega))) rfl
   exact trivial
  case hend=>
   intro w23 D23;rintro _ rfl v20 rfl _ rfl _ rfl _ rfl _ rfl _ rfl v26 rfl _ rfl;show St ..;refine ak (ag (bc rfl (aN (ag (an (af (ab (aa cw rfl) (ab (au ao rfl (by exact (show _=some (Value.int .i64 m.k) from ((h3.kept hzb hm9).from_ ((ai.rfl_.next D12).next D23)).rd 0 rfl))) ?_))))))));refine ak (ag (bf (an (af (ab (bY (bh rfl rfl) (beq_eq_false_iff_ne.2 (by omega))) (asb rfl (ak (ag (bc rfl (an (af (ab (bY (bh rfl rfl) (beq_eq_false_iff_ne.2 (by omega))) (asb rfl (ak (ag ?_)))))))))))))));refine bc rfl (an (an (af (ab (bY (bh rfl rfl) (beq_eq_false_iff_ne.2 (by omega))) (asb rfl (ak (ag (bc rfl (af (ab (bY (bh rfl rfl) (beq_eq_false_iff_ne.2 (by omega))) (asb rfl ?_)))))))))));refine ak (ag (bc rfl (an (an (af (ab (bY (bh rfl rfl) (beq_eq_false_iff_ne.2 (by omega))) (asb rfl (ak (ag (bc rfl (af (ab (dd (bh rfl rfl) (beq_iff_eq.2 hk)) ?_))))))))))));refine asb rfl (ak (ag (a_ rfl (af (mvp rfl (ab (aK (cs:=bC m) bn aZ rfl (((h3.kept hzb hm9).from_ ((ai.rfl_.next D12).next D23)).whole)) (aC mx (uL wm Z7 T g s m _ (h3.from_ ((ai.rfl_.next D12).next D23)) hF hf (by omega) hix hma0) ?_)))))));rintro v54 w24 ⟨rfl,h6⟩;refine ak (bq (cB (dN rfl ?_)));rw [lO (by omega) (by omega)];exact ⟨rfl,h.back hE3 (h6.from_ ai.rfl_) hzi⟩
theorem yQ (w0:World) (Z:Nat→Prop) (T g:Nat) (s:Rf) (m:Msg) (w:World) (h:aQ w0 Z w T g ⟨s,[]⟩) (hF:RfF s) (ht:m.tm≤1099511627775) (hk:m.k=6) (hf:1≤m.f∧m.f≤s.nodes) (hix:0≤m.ix∧m.ix≤1099511627775) (hma0:0≤m.a) (hgt:s.term<m.tm) :
 Rt prog 58 [.pointer (some ⟨g,0,none⟩),.agg (bC m).toArray] w (fun v w'=>v=.tuple #[]∧aQ w0 Z w' T g (cW s m)):=by
 have hFf:RfF (dh s m.tm):=hF.falls ht;have hf9:1≤m.f∧m.f≤(dh s m.tm).nodes:=by rw [(j_ s m.tm).2.2.2.2.1];exact hf
 refine enter (n:=55) Tryz.func58 rfl rfl rfl (an (af (bQ (v:=.agg _) rfl ?_)));intro b3 w1 E3 hb3 hk3;obtain ⟨wm,hwm⟩:∃ x,x=w1:=⟨_,rfl⟩
 have h3a:=h.at_ (Z':=fun k=>Z k∨k=b3) E3 (fun k hk=>by
  rcases hk with e | e
  ·exact ⟨Nat.lt_of_lt_of_le (h.zw k e) E3.size,.inl e⟩
  ·subst e;exact ⟨hk3.lt,.inr (by omega)⟩)
 obtain ⟨Z7,hZ7⟩:∃ Z7,Z7=fun k=>Z k∨k=b3:=⟨_,rfl⟩
 have h3:aQ wm Z7 w1 T g ⟨s,[]⟩:=by
  rw [hZ7,hwm];exact h3a
 have hzi:∀ k,Z k→Z7 k:=fun k hk=>by rw [hZ7];exact .inl hk
 have hzb:Z7 b3:=by rw [hZ7];exact .inr rfl
 have hE3:ai w wm:=by rw [hwm];exact E3
 have hm9:Blk wm b3 39 (bC m).toArray:=by rw [hwm];exact hk3
 have hm3:=h3.kept hzb hm9;refine ak (ag (an (an ?_)))
 skip
 apply bD 9 [(4,eqp _),(5,eqp (.int .i64 m.tm)),(6,eqp _),(7,eqp _),(8,eqp _),(9,eqp _),(10,eqp _),(11,eqp (.int .i64 s.term)),(12,eqp _)] (by repeat first | exact cl | refine ck ?_ | refine bM ?_) (by kernel_rfl) (by kernel_rfl) ⟨ah _,ah _,ah _,ah _,ah _,ah _,ah _,ah _,ah _,trivial⟩
 case hop=>
  constructor
  ·rintro-w3 D3;exact aq (aa cd rfl) rfl
  constructor
  ·rintro-w4 D4;rintro _ rfl;exact aq (au ao rfl (by exact (show _=some (Value.int .i64 m.tm) from (hm3.from_ (ai.rfl_.next D4)).rd 3 rfl))) rfl
  constructor
  ·rintro-w5 D5;exact aq (aB (v:=.pointer _) rfl) rfl
  constructor
  ·rintro-w6 D6;rintro _ rfl;exact aq (av rfl) rfl
  constructor
  ·rintro-w7 D7;rintro _ rfl;exact aq (aa aF rfl) rfl
  constructor
  ·rintro-w8 D8;rintro _ rfl;exact aq (aa az rfl) rfl
  constructor
  ·rintro-w9 D9;rintro _ rfl;exact aq (aa bJ rfl) rfl
  constructor
  ·rintro-w10 D10;rintro _ rfl;exact aq (au ao rfl (by exact (show _=some (Value.int .i64 s.term) from (h3.from_ (ai.rfl_.next D10)).rd (fun _=>rfl)))) rfl
  constructor
  ·rintro-w11 D11;rintro v11_5 rfl v11_11 rfl;exact aq (dd (cy rfl rfl) (decide_eq_true hgt)) rfl
  exact trivial
 case hend=>
  intro w12 D12;rintro _ rfl v5 rfl _ rfl _ rfl _ rfl _ rfl _ rfl v11 rfl _ rfl;show St ..;refine ak (ag (a_ rfl ?_));apply ig [(0,13,fun _ v _=>v=_),(1,14,fun _ v _=>v=_),(2,15,fun _ v _=>v=_),(3,16,fun _ v _=>v=_),(4,17,fun S v w9=>S 5=false→(eqp (.int .i64 m.tm)) v w9),(5,18,fun _ v _=>v=_)] [5] (fun S w'=>(S 5=false→ai w12 w')∧(S 5=true→aQ wm Z7 w' T g ⟨dh s m.tm,[]⟩)) (by kernel_rfl) (by kernel_rfl) rfl rfl ⟨fun _ _ _ _ _ _ _ h=>h,fun _ _ _ _ _ _ _ h=>h,fun _ _ _ _ _ _ _ h=>h,fun _ _ _ _ _ _ _ h=>h,fun S i v w1 w2 hq hF h h0=>(ah _) v w1 w2 hF (h (im h0)),fun _ _ _ _ _ _ _ h=>h,trivial⟩ (fun S i w1 w2 hq hF h=>⟨fun h0=>(h.1 (im h0)).next hF,fun h1=>(fun h=>h.from_ hF) (h.2 (ll (show 5≠i by rintro rfl;exact absurd hq (by decide)) h1))⟩) ⟨fun _=>ai.rfl_.d1,fun h=>by cases h⟩
  case hstep=>
   constructor
   ·rintro S L' w13 hU hmo hme hI hM hC hS ⟨-⟩;have hS0:S 5=false:=(aj hC (j:=5) rfl (by kernel_rfl) (aj hC (j:=2) rfl (by kernel_rfl) (aj hC (j:=1) rfl (by kernel_rfl) hS)));have hM13:=hM.1 hS0;have e0:=hI.1 0 (dI rfl);exact aD [(0,_)] hU hmo hme hI hM (.head _) rfl rfl (by kernel_rfl) ⟨e0,trivial⟩ (aB (v:=.pointer _) rfl) ai.rfl_ (rfl)
   constructor
   ·rintro S L' w14 hU hmo hme hI hM hC hS ⟨d0,-⟩;have hS0:S 5=false:=(aj hC (j:=5) rfl (by kernel_rfl) (aj hC (j:=2) rfl (by kernel_rfl) hS));have hM14:=hM.1 hS0;obtain ⟨v14_13,e13,h13⟩:=hI.get (i:=0) (.head _) d0;obtain rfl:=h13;exact aD [(13,_)] hU hmo hme hI hM (.tail _ (.head _)) rfl rfl (by kernel_rfl) ⟨e13,trivial⟩ (av rfl) ai.rfl_ (rfl)
   constructor
   ·rintro S L' w15 hU hmo hme hI hM hC hS ⟨d1,-⟩;have hS0:S 5=false:=(aj hC (j:=5) rfl (by kernel_rfl) hS);have hM15:=hM.1 hS0;obtain ⟨v15_14,e14,h14⟩:=hI.get (i:=1) (.tail _ (.head _)) d1;obtain rfl:=h14;exact aD [(14,_)] hU hmo hme hI hM (gM 2 rfl) rfl rfl (by kernel_rfl) ⟨e14,trivial⟩ (aa aF rfl) ai.rfl_ (rfl)
   constructor
   ·rintro S L' w16 hU hmo hme hI hM hC hS ⟨-⟩;have hS0:S 5=false:=(aj hC (j:=5) rfl (by kernel_rfl) (aj hC (j:=4) rfl (by kernel_rfl) hS));have hM16:=hM.1 hS0;have e3:=hI.1 3 (dI rfl);exact aD [(3,_)] hU hmo hme hI hM (gM 3 rfl) rfl rfl (by kernel_rfl) ⟨e3,trivial⟩ (aa cd rfl) ai.rfl_ (rfl)
   constructor
   ·rintro S L' w17 hU hmo hme hI hM hC hS ⟨d3,-⟩;have hS0:S 5=false:=(aj hC (j:=5) rfl (by kernel_rfl) hS);have hM17:=hM.1 hS0;obtain ⟨v17_16,e16,h16⟩:=hI.get (i:=3) (gM 3 rfl) d3;obtain rfl:=h16;exact aD [(16,_)] hU hmo hme hI hM (gM 4 rfl) rfl rfl (by kernel_rfl) ⟨e16,trivial⟩ (au ao rfl (by exact (show _=some (Value.int .i64 m.tm) from (hm3.from_ ((ai.rfl_.next D12).next hM17)).rd 3 rfl))) ai.rfl_ (fun _=>rfl)
   constructor
   ·rintro S L' w18 hU hmo hme hI hM hC hS ⟨d2,d4,-⟩;have hS0:S 5=false:=hS;have hM18:=hM.1 hS0;obtain ⟨v18_15,e15,h15⟩:=hI.get (i:=2) (gM 2 rfl) d2;obtain rfl:=h15;obtain ⟨v18_17,e17,h17⟩:=hI.get (i:=4) (gM 4 rfl) d4;obtain rfl:=h17 hS0;refine fo (al:=[.tmp 15,.tmp 17]) [(15,_),(17,_)] hU hI (gM 5 rfl) (by kernel_rfl) ⟨e15,e17,trivial⟩ pg ((qb wm Z7 T g ⟨s,[]⟩ _ (h3.from_ ((ai.rfl_.next D12).next hM18)) m.tm).mono ?_);rintro v9 w2 ⟨rfl,hS2⟩;exact ⟨⟨fun h0=>(by rw [gL] at h0;cases h0),fun _=>hS2⟩,rfl,⟨fun _ _ _ h=>h,fun _ _ _ h=>h,fun _ _ _ h=>h,fun _ _ _ h=>h,fun _ _ _ _ h0=>(by rw [gL] at h0;cases h0),fun _ _ _ h=>h,trivial⟩⟩
   exact trivial
  case hend=>
   intro w19 hM;obtain hS9:=hM.2 rfl;rintro v19_13 rfl v19_14 rfl v19_15 rfl v19_16 rfl v19_17-v19_18 rfl;refine fB (ag (an (an ?_)))
   skip
   apply bD 9 [(19,eqp _),(20,eqp (.int .i64 m.tm)),(21,eqp _),(22,eqp _),(23,eqp _),(24,eqp _),(25,eqp _),(26,eqp (.int .i64 (dh s m.tm).term)),(27,eqp _)] (by repeat first | exact cl | refine ck ?_ | refine bM ?_) (by kernel_rfl) (by kernel_rfl) ⟨ah _,ah _,ah _,ah _,ah _,ah _,ah _,ah _,ah _,trivial⟩
   case hop=>
    constructor
    ·rintro-w21 D21;exact aq (aa cd rfl) rfl
    constructor
    ·rintro-w22 D22;rintro _ rfl;exact aq (au ao rfl (by exact (show _=some (Value.int .i64 m.tm) from ((hS9.kept hzb hm9).from_ (ai.rfl_.next D22)).rd 3 rfl))) rfl
    constructor
    ·rintro-w23 D23;exact aq (aB (v:=.pointer _) rfl) rfl
    constructor
    ·rintro-w24 D24;rintro _ rfl;exact aq (av rfl) rfl
    constructor
    ·rintro-w25 D25;rintro _ rfl;exact aq (aa aF rfl) rfl
    constructor
    ·rintro-w26 D26;rintro _ rfl;exact aq (aa az rfl) rfl
    constructor
    ·rintro-w27 D27;rintro _ rfl;exact aq (aa bJ rfl) rfl
    constructor
    ·rintro-w28 D28;rintro _ rfl;exact aq (au ao rfl (by exact (show _=some (Value.int .i64 (dh s m.tm).term) from (hS9.from_ (ai.rfl_.next D28)).rd (fun _=>rfl)))) rfl
    constructor
    ·rintro-w29 D29;rintro v29_20 rfl v29_26 rfl;exact aq (bY (bZ rfl rfl) (decide_eq_false (by have:=fP s m.tm;omega))) rfl
    exact trivial
   case hend=>
    intro w30 D30;rintro _ rfl v20 rfl _ rfl _ rfl _ rfl _ rfl _ rfl v26 rfl _ rfl;show St ..;refine ak (ag (bc rfl (aN (ag (an (af (ab (aa cw rfl) (ab (au ao rfl (by exact (show _=some (Value.int .i64 m.k) from ((hS9.kept hzb hm9).from_ (ai.rfl_.next D30)).rd 0 rfl))) ?_))))))));refine ak (ag (bf (an (af (ab (bY (bh rfl rfl) (beq_eq_false_iff_ne.2 (by omega))) (asb rfl (ak (ag (bc rfl (an (af (ab (bY (bh rfl rfl) (beq_eq_false_iff_ne.2 (by omega))) (asb rfl (ak (ag ?_)))))))))))))));refine bc rfl (an (an (af (ab (bY (bh rfl rfl) (beq_eq_false_iff_ne.2 (by omega))) (asb rfl (ak (ag (bc rfl (af (ab (bY (bh rfl rfl) (beq_eq_false_iff_ne.2 (by omega))) (asb rfl ?_)))))))))));refine ak (ag (bc rfl (an (an (af (ab (bY (bh rfl rfl) (beq_eq_false_iff_ne.2 (by omega))) (asb rfl (ak (ag (bc rfl (af (ab (dd (bh rfl rfl) (beq_iff_eq.2 hk)) ?_))))))))))));refine asb rfl (ak (ag (a_ rfl (af (mvp rfl (ab (aK (cs:=bC m) bn aZ rfl (((hS9.kept hzb hm9).from_ (ai.rfl_.next D30)).whole)) (aC mx (uL wm Z7 T g (dh s m.tm) m _ (hS9.from_ (ai.rfl_.next D30)) hFf hf9 (by omega) hix hma0) ?_)))))));rintro v54 w31 ⟨rfl,h6⟩;refine ak (bq (cB (dN rfl ?_)));rw [rH hgt,lO (by have:=fP s m.tm;omega) (by omega)];exact ⟨rfl,h.back hE3 (h6.from_ ai.rfl_) hzi⟩
theorem uN (w0:World) (Z:Nat→Prop) (T g:Nat) (s:Rf) (m:Msg) (w:World) (h:aQ w0 Z w T g ⟨s,[]⟩) (hF:RfF s) (ht:m.tm≤1099511627775) (hk:m.k=6) (hf:1≤m.f∧m.f≤s.nodes) (hix:0≤m.ix∧m.ix≤1099511627775) (hma0:0≤m.a):Rt prog 58 [.pointer (some ⟨g,0,none⟩),.agg (bC m).toArray] w fun v w'=>v=.tuple #[]∧aQ w0 Z w' T g (cW s m):=by
 rcases Int.lt_trichotomy m.tm s.term with h1 | h1 | h1
 ·exact Ae w0 Z T g s m w h h1
 ·exact yR w0 Z T g s m w h hF ht hk hf hix hma0 h1.symm
 ·exact yQ w0 Z T g s m w h hF ht hk hf hix hma0 h1
theorem wX (w0:World) (Z:Nat→Prop) (T g:Nat) (s:Rf) (m:Msg) (w:World) (h:aQ w0 Z w T g ⟨s,[]⟩) (hF:RfF s) (_:m.tm≤1099511627775) (hk:m.k=6) (hgt:s.term=m.tm) (hf:1≤m.f∧m.f≤s.nodes) (hix:0≤m.ix∧m.ix≤1099511627775) (hma0:0≤m.a) (hne:m.f≠s.id) :
 Rt prog 89 [.pointer (some ⟨g,0,none⟩),.agg (bC m).toArray] w (fun v w'=>v=.tuple #[]∧aQ w0 Z w' T g (cW s m)):=by
 refine enter (n:=169) Tryz.func89 rfl rfl rfl (an (af (bQ (v:=.agg _) rfl ?_)));intro b3 w1 E3 hb3 hk3;obtain ⟨wm,hwm⟩:∃ x,x=w1:=⟨_,rfl⟩
 have h3a:=h.at_ (Z':=fun k=>Z k∨k=b3) E3 (fun k hk=>by
  rcases hk with e | e
  ·exact ⟨Nat.lt_of_lt_of_le (h.zw k e) E3.size,.inl e⟩
  ·subst e;exact ⟨hk3.lt,.inr (by omega)⟩)
 obtain ⟨Z7,hZ7⟩:∃ Z7,Z7=fun k=>Z k∨k=b3:=⟨_,rfl⟩
 have h3:aQ wm Z7 w1 T g ⟨s,[]⟩:=by
  rw [hZ7,hwm];exact h3a
 have hzi:∀ k,Z k→Z7 k:=fun k hk=>by rw [hZ7];exact .inl hk
 have hzb:Z7 b3:=by rw [hZ7];exact .inr rfl
 have hE3:ai w wm:=by rw [hwm];exact E3
 have hm9:Blk wm b3 39 (bC m).toArray:=by rw [hwm];exact hk3
 have hm3:=h3.kept hzb hm9;refine ak (ag (an (an ?_)))
 skip
 apply bD 8 [(5,eqp _),(6,eqp (.int .i64 m.tm)),(7,eqp _),(8,eqp _),(9,eqp _),(10,eqp _),(11,eqp (.int .i64 s.term)),(12,eqp _)] (by repeat first | exact cl | refine ck ?_ | refine bM ?_) (by kernel_rfl) (by kernel_rfl) ⟨ah _,ah _,ah _,ah _,ah _,ah _,ah _,ah _,trivial⟩
 case hop=>
  constructor
  ·rintro-w3 D3;exact aq (aa cd rfl) rfl
  constructor
  ·rintro-w4 D4;rintro _ rfl;exact aq (au ao rfl (by exact (show _=some (Value.int .i64 m.tm) from (hm3.from_ (ai.rfl_.next D4)).rd 3 rfl))) rfl
  constructor
  ·rintro-w5 D5;exact aq (aB (v:=.pointer _) rfl) rfl
  constructor
  ·rintro-w6 D6;rintro _ rfl;exact aq (av rfl) rfl
  constructor
  ·rintro-w7 D7;rintro _ rfl;exact aq (aa aO rfl) rfl
  constructor
  ·rintro-w8 D8;rintro _ rfl;exact aq (aa bJ rfl) rfl
  constructor
  ·rintro-w9 D9;rintro _ rfl;exact aq (au ao rfl (by exact (show _=some (Value.int .i64 s.term) from (h3.from_ (ai.rfl_.next D9)).rd (fun _=>rfl)))) rfl
  constructor
  ·rintro-w10 D10;rintro v10_6 rfl v10_11 rfl;exact aq (bY (cy rfl rfl) (decide_eq_false (by omega))) rfl
  exact trivial
 case hend=>
  intro w11 D11;rintro _ rfl v6 rfl _ rfl _ rfl _ rfl _ rfl v11 rfl _ rfl;show St ..;refine ak (ag (bc rfl (aN (ag (an (an ?_))))))
  skip
  apply bD 8 [(17,eqp _),(18,eqp (.int .i64 m.tm)),(19,eqp _),(20,eqp _),(21,eqp _),(22,eqp _),(23,eqp (.int .i64 s.term)),(24,eqp _)] (by repeat first | exact cl | refine ck ?_ | refine bM ?_) (by kernel_rfl) (by kernel_rfl) ⟨ah _,ah _,ah _,ah _,ah _,ah _,ah _,ah _,trivial⟩
  case hop=>
   constructor
   ·rintro-w13 D13;exact aq (aa cd rfl) rfl
   constructor
   ·rintro-w14 D14;rintro _ rfl;exact aq (au ao rfl (by exact (show _=some (Value.int .i64 m.tm) from ((h3.kept hzb hm9).from_ ((ai.rfl_.next D11).next D14)).rd 3 rfl))) rfl
   constructor
   ·rintro-w15 D15;exact aq (aB (v:=.pointer _) rfl) rfl
   constructor
   ·rintro-w16 D16;rintro _ rfl;exact aq (av rfl) rfl
   constructor
   ·rintro-w17 D17;rintro _ rfl;exact aq (aa aO rfl) rfl
   constructor
   ·rintro-w18 D18;rintro _ rfl;exact aq (aa bJ rfl) rfl
   constructor
   ·rintro-w19 D19;rintro _ rfl;exact aq (au ao rfl (by exact (show _=some (Value.int .i64 s.term) from (h3.from_ ((ai.rfl_.next D11).next D19)).rd (fun _=>rfl)))) rfl
   constructor
   ·rintro-w20 D20;rintro v20_18 rfl v20_23 rfl;exact aq (bY (bZ rfl rfl) (decide_eq_false (by have:=fP s m.tm;omega))) rfl
   exact trivial
  case hend=>
   intro w21 D21;rintro _ rfl v18 rfl _ rfl _ rfl _ rfl _ rfl v23 rfl _ rfl;show St ..;refine ak (ag (bc rfl (aN (ag (an (af (ab (aa cw rfl) (ab (au ao rfl (by exact (show _=some (Value.int .i64 m.k) from ((h3.kept hzb hm9).from_ ((ai.rfl_.next D11).next D21)).rd 0 rfl))) ?_))))))));refine ak (ag (bf (an (af (ab (bY (bh rfl rfl) (beq_eq_false_iff_ne.2 (by omega))) (asb rfl (ak (ag (bc rfl (an (af (ab (bY (bh rfl rfl) (beq_eq_false_iff_ne.2 (by omega))) (asb rfl (ak (ag ?_)))))))))))))));refine bc rfl (an (an (af (ab (bY (bh rfl rfl) (beq_eq_false_iff_ne.2 (by omega))) (asb rfl (ak (ag (bc rfl (af (ab (bY (bh rfl rfl) (beq_eq_false_iff_ne.2 (by omega))) (asb rfl ?_)))))))))));refine ak (ag (bc rfl (an (af (mvp rfl (ab (av rfl) (ab (aa aO rfl) (ab (aa cT rfl) (ab (au ao rfl (by exact (show _=some (Value.int .i64 s.role) from (h3.from_ ((ai.rfl_.next D11).next D21)).rd (fun _=>rfl)))) ?_)))))))));refine ab (bh rfl rfl) (ak (ag (Bt rfl (fun Q22=>?_) (fun Q22=>?_))))
   ·refine af (mvp rfl (ab (aK (cs:=bC m) bn aZ rfl (((h3.kept hzb hm9).from_ ((ai.rfl_.next D11).next D21)).whole)) (aC qY (wU wm Z7 T g s m _ (h3.from_ ((ai.rfl_.next D11).next D21)) hF hf hne (by omega) (by omega) hix hma0) ?_)));rintro v54 w23 ⟨rfl,h6⟩;refine ak (bq (cB (dN rfl ?_)));rw [lO (by omega) (by omega)];exact ⟨rfl,h.back hE3 (h6.from_ ai.rfl_) hzi⟩
   refine aN (bq (cB (dN rfl ?_)));rw [lO (by omega) (by omega),tw (by omega)];exact ⟨rfl,h.back hE3 (h3.from_ ((ai.rfl_.next D11).next D21)) hzi⟩
theorem wW (w0:World) (Z:Nat→Prop) (T g:Nat) (s:Rf) (m:Msg) (w:World) (h:aQ w0 Z w T g ⟨s,[]⟩) (hF:RfF s) (ht:m.tm≤1099511627775) (hk:m.k=6) (hgt:s.term<m.tm) (_:1≤m.f∧m.f≤s.nodes) (_:0≤m.ix∧m.ix≤1099511627775) (_:0≤m.a) (_:m.f≠s.id) :
 Rt prog 89 [.pointer (some ⟨g,0,none⟩),.agg (bC m).toArray] w (fun v w'=>v=.tuple #[]∧aQ w0 Z w' T g (cW s m)):=by
 have hFf:RfF (dh s m.tm):=hF.falls ht;have hr0:=(j_ s m.tm).2.2.2.2.2.1;refine enter (n:=169) Tryz.func89 rfl rfl rfl (an (af (bQ (v:=.agg _) rfl ?_)));intro b3 w1 E3 hb3 hk3;obtain ⟨wm,hwm⟩:∃ x,x=w1:=⟨_,rfl⟩
 have h3a:=h.at_ (Z':=fun k=>Z k∨k=b3) E3 (fun k hk=>by
  rcases hk with e | e
  ·exact ⟨Nat.lt_of_lt_of_le (h.zw k e) E3.size,.inl e⟩
  ·subst e;exact ⟨hk3.lt,.inr (by omega)⟩)
 obtain ⟨Z7,hZ7⟩:∃ Z7,Z7=fun k=>Z k∨k=b3:=⟨_,rfl⟩
 have h3:aQ wm Z7 w1 T g ⟨s,[]⟩:=by
  rw [hZ7,hwm];exact h3a
 have hzi:∀ k,Z k→Z7 k:=fun k hk=>by rw [hZ7];exact .inl hk
 have hzb:Z7 b3:=by rw [hZ7];exact .inr rfl
 have hE3:ai w wm:=by rw [hwm];exact E3
 have hm9:Blk wm b3 39 (bC m).toArray:=by rw [hwm];exact hk3
 have hm3:=h3.kept hzb hm9;refine ak (ag (an (an ?_)))
 skip
 apply bD 8 [(5,eqp _),(6,eqp (.int .i64 m.tm)),(7,eqp _),(8,eqp _),(9,eqp _),(10,eqp _),(11,eqp (.int .i64 s.term)),(12,eqp _)] (by repeat first | exact cl | refine ck ?_ | refine bM ?_) (by kernel_rfl) (by kernel_rfl) ⟨ah _,ah _,ah _,ah _,ah _,ah _,ah _,ah _,trivial⟩
 case hop=>
  constructor
  ·rintro-w3 D3;exact aq (aa cd rfl) rfl
  constructor
  ·rintro-w4 D4;rintro _ rfl;exact aq (au ao rfl (by exact (show _=some (Value.int .i64 m.tm) from (hm3.from_ (ai.rfl_.next D4)).rd 3 rfl))) rfl
  constructor
  ·rintro-w5 D5;exact aq (aB (v:=.pointer _) rfl) rfl
  constructor
  ·rintro-w6 D6;rintro _ rfl;exact aq (av rfl) rfl
  constructor
  ·rintro-w7 D7;rintro _ rfl;exact aq (aa aO rfl) rfl
  constructor
  ·rintro-w8 D8;rintro _ rfl;exact aq (aa bJ rfl) rfl
  constructor
  ·rintro-w9 D9;rintro _ rfl;exact aq (au ao rfl (by exact (show _=some (Value.int .i64 s.term) from (h3.from_ (ai.rfl_.next D9)).rd (fun _=>rfl)))) rfl
  constructor
  ·rintro-w10 D10;rintro v10_6 rfl v10_11 rfl;exact aq (dd (cy rfl rfl) (decide_eq_true hgt)) rfl
  exact trivial
 case hend=>
  intro w11 D11;rintro _ rfl v6 rfl _ rfl _ rfl _ rfl _ rfl v11 rfl _ rfl;show St ..;refine ak (ag (a_ rfl (af (mvp rfl (ab (aa cd rfl) (ab (au ao rfl (by exact (show _=some (Value.int .i64 m.tm) from (hm3.from_ (ai.rfl_.next D11)).rd 3 rfl))) ?_))))));refine aC q_ (x_ wm Z7 T g ⟨s,[]⟩ _ (h3.from_ (ai.rfl_.next D11)) m.tm) ?_;rintro v16 w12 ⟨rfl,h4⟩;refine ak (ag (an (an ?_)))
  skip
  apply bD 8 [(17,eqp _),(18,eqp (.int .i64 m.tm)),(19,eqp _),(20,eqp _),(21,eqp _),(22,eqp _),(23,eqp (.int .i64 (dh s m.tm).term)),(24,eqp _)] (by repeat first | exact cl | refine ck ?_ | refine bM ?_) (by kernel_rfl) (by kernel_rfl) ⟨ah _,ah _,ah _,ah _,ah _,ah _,ah _,ah _,trivial⟩
  case hop=>
   constructor
   ·rintro-w14 D14;exact aq (aa cd rfl) rfl
   constructor
   ·rintro-w15 D15;rintro _ rfl;exact aq (au ao rfl (by exact (show _=some (Value.int .i64 m.tm) from ((h4.kept hzb hm9).from_ (ai.rfl_.next D15)).rd 3 rfl))) rfl
   constructor
   ·rintro-w16 D16;exact aq (aB (v:=.pointer _) rfl) rfl
   constructor
   ·rintro-w17 D17;rintro _ rfl;exact aq (av rfl) rfl
   constructor
   ·rintro-w18 D18;rintro _ rfl;exact aq (aa aO rfl) rfl
   constructor
   ·rintro-w19 D19;rintro _ rfl;exact aq (aa bJ rfl) rfl
   constructor
   ·rintro-w20 D20;rintro _ rfl;exact aq (au ao rfl (by exact (show _=some (Value.int .i64 (dh s m.tm).term) from (h4.from_ (ai.rfl_.next D20)).rd (fun _=>rfl)))) rfl
   constructor
   ·rintro-w21 D21;rintro v21_18 rfl v21_23 rfl;exact aq (bY (bZ rfl rfl) (decide_eq_false (by have:=fP s m.tm;omega))) rfl
   exact trivial
  case hend=>
   intro w22 D22;rintro _ rfl v18 rfl _ rfl _ rfl _ rfl _ rfl v23 rfl _ rfl;show St ..;refine ak (ag (bc rfl (aN (ag (an (af (ab (aa cw rfl) (ab (au ao rfl (by exact (show _=some (Value.int .i64 m.k) from ((h4.kept hzb hm9).from_ (ai.rfl_.next D22)).rd 0 rfl))) ?_))))))));refine ak (ag (bf (an (af (ab (bY (bh rfl rfl) (beq_eq_false_iff_ne.2 (by omega))) (asb rfl (ak (ag (bc rfl (an (af (ab (bY (bh rfl rfl) (beq_eq_false_iff_ne.2 (by omega))) (asb rfl (ak (ag ?_)))))))))))))));refine bc rfl (an (an (af (ab (bY (bh rfl rfl) (beq_eq_false_iff_ne.2 (by omega))) (asb rfl (ak (ag (bc rfl (af (ab (bY (bh rfl rfl) (beq_eq_false_iff_ne.2 (by omega))) (asb rfl ?_)))))))))));refine ak (ag (bc rfl (an (af (mvp rfl (ab (av rfl) (ab (aa aO rfl) (ab (aa cT rfl) (ab (au ao rfl (by exact (show _=some (Value.int .i64 (dh s m.tm).role) from (h4.from_ (ai.rfl_.next D22)).rd (fun _=>rfl)))) ?_)))))))));refine ab (bh rfl rfl) (ak (ag (Bt rfl (fun Q23=>?_) (fun Q23=>?_))))
   ·exfalso;omega
   refine aN (bq (cB (dN rfl ?_)));rw [rH hgt,lO (by have:=fP s m.tm;omega) (by omega),tw (by omega)];exact ⟨rfl,h.back hE3 (h4.from_ (ai.rfl_.next D22)) hzi⟩
theorem rO (w0:World) (Z:Nat→Prop) (T g:Nat) (s:Rf) (m:Msg) (w:World) (h:aQ w0 Z w T g ⟨s,[]⟩) (hF:RfF s) (ht:m.tm≤1099511627775) (hk:m.k=6) (hf:1≤m.f∧m.f≤s.nodes) (hix:0≤m.ix∧m.ix≤1099511627775) (hma0:0≤m.a) (hne:m.f≠s.id):Rt prog 89 [.pointer (some ⟨g,0,none⟩),.agg (bC m).toArray] w fun v w'=>v=.tuple #[]∧aQ w0 Z w' T g (cW s m):=by
 rcases Int.lt_trichotomy m.tm s.term with h1 | h1 | h1
 ·exact yS w0 Z T g s m w h h1
 ·exact wX w0 Z T g s m w h hF ht hk h1.symm hf hix hma0 hne
 ·exact wW w0 Z T g s m w h hF ht hk h1 hf hix hma0 hne
theorem ia:aP prog 47=true:=by kernel_rfl
theorem jA:cL prog 41 2=some 14:=by kernel_rfl
theorem iU:aP prog 30=true:=by kernel_rfl
theorem ln (i:Int) (n:Nat) (h:0<n):wiN i n<n:=Nat.mod_lt _ h
theorem sd:∀ (xs:List Ent) (p t:Int),0≤t→eH xs p t=true→0≤dq t xs
 |[],_,_,h,_=>h
 |e::r,p,t,h,hr=>by
  have h':(ga e p t&&eH r (p+1) e.t)=true:=hr;rw [Bool.and_eq_true] at h';have h1:=h'.1;unfold ga at h1;simp only [Bool.and_eq_true] at h1;have h2:=dw h1.1.2;rw [ns];exact sd r (p+1) e.t (by omega) h'.2
theorem sf {s:Rf} (h:RfF s):0≤dq s.t s.es:=by
 have hm:=h.lg;unfold cK at hm;simp only [Bool.and_eq_true] at hm;have h2:=dw hm.1.1.2;exact sd s.es s.b s.t (by omega) hm.2
def x9 (s:Rf) (m:Msg):Msg:={ m with t:=s.id,f:=if m.f=s.id then s.id%s.nodes+1 else m.f,tm:=max 0 (min (s.term+(wiN m.tm 3:Nat)-1) 1099511627775) }
def B1 (s:Rf) (m:Msg):Msg:={ x9 s m with ix:=max 0 (bd s+(wiN m.ix 3:Nat)-1),lt:=max 0 (dq s.t s.es+(wiN m.lt 3:Nat)-1) }
structure Mo (z:Nat) (w:World) (m:Msg):Prop where
 o:w.ownsRow z 99 3 (.slice m.E m.es.length m.c) m.es.length (dR m.es)
theorem Mo.from_ {z:Nat} {w w':World} {m:Msg} (h:Mo z w m) (hF:ai w w'):Mo z w' m:=⟨h.o.kept_from hF⟩
theorem Mo.em {z:Nat} {w:World} {m:Msg} (h:Mo z w m):Em w m:=cH.of_own h.o rfl
theorem Mo.chg {z:Nat} {w w':World} {m:Msg} {U:Nat→Prop} (h:Mo z w m) (hC:Chg U w w') (hU:∀ k,U k→k<z∨w.heap.size≤k):Mo z w' m:=
 ⟨ew h.o hC fun k hk e=>by have:=ee h.o k hk;rcases hU k e with e | e <;> omega⟩
theorem Mo.off {z g:Nat} {w w':World} {m:Msg} {cs:Array Value} {T:TypeId} (h:Mo z w m) (hb:Blk w g T cs) (hT:T≠99) (hO:d_ g w w'):Mo z w' m:=⟨fx h.o hO (k7 h.o hb hT)⟩
def at9 (m:Msg) (E:Option Addr) (c:Nat):Msg:={ m with E:=E,c:=c }
theorem u_ (s:Rf) (a:Ra) (x:Ac) (w:World) (_:eQ w s a) (_:s.votes.length≤1000000∧s.next.length≤1000000∧s.mtch.length≤1000000∧s.sent.length≤1000000∧s.reads.length≤1000000∧∀ q∈s.reads,q.acks.length≤1000000) (he:Em w x.m) (hlm:x.m.es.length≤1000000) (hf:x.fit=false) :
 Rt prog 44 [.agg (rfV s a).toArray,.agg (acV x).toArray] w (fun v w'=>(∃ E c,v=.agg (bC (at9 x.m E c)).toArray∧Mo w.heap.size w' (at9 x.m E c))∧ai w w'):=by
 refine enter (n:=206) Tryz.func44 rfl rfl rfl (an (af (bQ (v:=.agg _) rfl ?_)));intro b2 w1 E2 hb2 hk2;refine bQ (v:=.agg _) rfl ?_;intro b3 w2 E3 hb3 hk3;replace hk2:=hk2.from_ E3;refine bU dC ?_;intro b4 w3 E4 hb4 hk4;have hg4:w.heap.size≤b4:=by rw [hb4];exact (((ai.rfl_.next E2).next E3)).size
 replace hk2:=hk2.from_ E4;replace hk3:=hk3.from_ E4;refine ak (ag (an (af (ab (aa fv rfl) (ab (aK (cs:=bC x.m) bn aZ rfl (lf ((hk3.from_ ai.rfl_).whole))) ?_)))));have hM13:ai _ w3:=ai.rfl_;replace hk2:=hk2.from_ hM13;replace hk3:=hk3.from_ hM13;replace hk4:=hk4.from_ hM13;have hz13:=((((ai.rfl_.next E2).next E3).next E4)).size;have hlt2:=hk2.lt;have hlt3:=hk3.lt;have hlt4a:=hk4.lt;refine aC ia (jg x.m _ (he.from_ (((ai.rfl_.next E2).next E3).next E4)) (by omega)) ?_;rintro v13 w4 ⟨⟨A13,c13,rfl,ho13⟩,E13⟩;have ho13m:Mo _ w4 (at9 x.m A13 c13):=⟨ho13⟩;have hz13b:=E13.size;replace hk2:=hk2.from_ E13;replace hk3:=hk3.from_ E13;replace hk4:=hk4.from_ E13;have hM5:ai _ w4:=ai.rfl_;have hz5:=hM5.size;have hlt4b:=(hk4.from_ hM5).lt;refine bU dC ?_;intro b5 w5 E5 hb5 hk5;have hg5:w.heap.size≤b5:=by rw [hb5];exact (((((ai.rfl_.next E2).next E3).next E4).next E13)).size
 have hlt4:=hk4.lt;replace hk2:=hk2.from_ (hM5.next E5);replace hk3:=hk3.from_ (hM5.next E5);replace hk4:=hk4.from_ (hM5.next E5);replace ho13m:=ho13m.from_ (hM5.next E5);have h45:b4<b5:=by omega
 have h25:b2<b5:=by omega
 have h35:b3<b5:=by omega
 refine cq (vs:=[_,_,_,_,_,_,_,_,_,_,_,_,_]) aZ rfl rfl (by simp [Value.oneCell']) (hk5) rfl ?_;intro w6 O1 P1;replace hk2:=hk2.only O1 (by omega);replace hk3:=hk3.only O1 (by omega);replace hk4:=hk4.only O1 (by omega);replace ho13m:=ho13m.off hk5 (by decide) O1;have hm5:Blk w6 b5 39 (bC (at9 x.m A13 c13)).toArray:=P1;refine ak (ag (an (an (af (ab (aa jA rfl) (ab (au eU rfl (by exact (show _=some (Value.bool x.fit) from (hk3.from_ ai.rfl_).rd 14 rfl))) ?_))))));refine ab (dd (cp rfl) (by rw [hf];rfl)) ?_;refine mvb rfl (ar rfl rfl (ar rfl rfl (ar rfl rfl (ab (aL (v:=.bool _) rfl rfl) (ak (ag (a_ rfl (an (af (ab (aK (cs:=bC (at9 x.m A13 c13)) bn aZ rfl ((hm5.from_ ai.rfl_).whole)) ?_))))))))));have hMe:ai _ w6:=ai.rfl_;have hke:=hk4.from_ hMe;refine cq (vs:=[_,_,_,_,_,_,_,_,_,_,_,_,_]) aZ rfl rfl (by simp [Value.oneCell']) (hke) rfl ?_;intro w7 O3 P3;have hoe:=(ho13m.from_ hMe).off hke (by decide) O3;refine ak (ag (aE (aG (lW rfl (dY (cs:=[_,_,_,_,_,_,_,_,_,_,_,_,_]) bn aZ rfl (by exact P3.whole)) ?_))));exact ⟨⟨A13,c13,rfl,⟨er hoe.o hz13⟩⟩,(((((((ai.rfl_.next E2).next E3).next E4).next E13).next E5).only O1 (hg5)).only O3 (hg4))⟩
theorem zn (s:Rf) (a:Ra) (x:Ac) (w:World) (hrd:eQ w s a) (hl:s.votes.length≤1000000∧s.next.length≤1000000∧s.mtch.length≤1000000∧s.sent.length≤1000000∧s.reads.length≤1000000∧∀ q∈s.reads,q.acks.length≤1000000) (he:Em w x.m) (hlm:x.m.es.length≤1000000) (hf:x.fit=true) (hm:iq s=false) :
 Rt prog 44 [.agg (rfV s a).toArray,.agg (acV x).toArray] w (fun v w'=>(∃ E c,v=.agg (bC (at9 x.m E c)).toArray∧Mo w.heap.size w' (at9 x.m E c))∧ai w w'):=by
 refine enter (n:=206) Tryz.func44 rfl rfl rfl (an (af (bQ (v:=.agg _) rfl ?_)));intro b2 w1 E2 hb2 hk2;refine bQ (v:=.agg _) rfl ?_;intro b3 w2 E3 hb3 hk3;replace hk2:=hk2.from_ E3;refine bU dC ?_;intro b4 w3 E4 hb4 hk4;have hg4:w.heap.size≤b4:=by rw [hb4];exact (((ai.rfl_.next E2).next E3)).size
 replace hk2:=hk2.from_ E4;replace hk3:=hk3.from_ E4;refine ak (ag (an (af (ab (aa fv rfl) (ab (aK (cs:=bC x.m) bn aZ rfl (lf ((hk3.from_ ai.rfl_).whole))) ?_)))));have hM13:ai _ w3:=ai.rfl_;replace hk2:=hk2.from_ hM13;replace hk3:=hk3.from_ hM13;replace hk4:=hk4.from_ hM13;have hz13:=((((ai.rfl_.next E2).next E3).next E4)).size;have hlt2:=hk2.lt;have hlt3:=hk3.lt;have hlt4a:=hk4.lt;refine aC ia (jg x.m _ (he.from_ (((ai.rfl_.next E2).next E3).next E4)) (by omega)) ?_;rintro v13 w4 ⟨⟨A13,c13,rfl,ho13⟩,E13⟩;have ho13m:Mo _ w4 (at9 x.m A13 c13):=⟨ho13⟩;have hz13b:=E13.size;replace hk2:=hk2.from_ E13;replace hk3:=hk3.from_ E13;replace hk4:=hk4.from_ E13;have hM5:ai _ w4:=ai.rfl_;have hz5:=hM5.size;have hlt4b:=(hk4.from_ hM5).lt;refine bU dC ?_;intro b5 w5 E5 hb5 hk5;have hg5:w.heap.size≤b5:=by rw [hb5];exact (((((ai.rfl_.next E2).next E3).next E4).next E13)).size
 have hlt4:=hk4.lt;replace hk2:=hk2.from_ (hM5.next E5);replace hk3:=hk3.from_ (hM5.next E5);replace hk4:=hk4.from_ (hM5.next E5);replace ho13m:=ho13m.from_ (hM5.next E5);have h45:b4<b5:=by omega
 have h25:b2<b5:=by omega
 have h35:b3<b5:=by omega
 refine cq (vs:=[_,_,_,_,_,_,_,_,_,_,_,_,_]) aZ rfl rfl (by simp [Value.oneCell']) (hk5) rfl ?_;intro w6 O1 P1;replace hk2:=hk2.only O1 (by omega);replace hk3:=hk3.only O1 (by omega);replace hk4:=hk4.only O1 (by omega);replace ho13m:=ho13m.off hk5 (by decide) O1;have hm5:Blk w6 b5 39 (bC (at9 x.m A13 c13)).toArray:=P1;refine ak (ag (an (an (af (ab (aa jA rfl) (ab (au eU rfl (by exact (show _=some (Value.bool x.fit) from (hk3.from_ ai.rfl_).rd 14 rfl))) ?_))))));refine ab (bY (cp rfl) (by rw [hf];rfl)) ?_;refine mvb rfl (ae rfl (ab (aK (cs:=rfV s a) aS aJ rfl ((hk2.from_ ai.rfl_).whole)) (ae rfl (aC iU (mM s a _ (hrd.from_ ((((((ai.rfl_.next E2).next E3).next E4).next E13).next E5).only O1 (hg5))) hl hm) ?_))));rintro v19 w7 ⟨rfl,E19⟩;refine ae rfl (ab (dd (cp rfl) rfl) (ab (ay (v:=.bool _) rfl rfl) (ak (ag (a_ rfl (an (af (ab (aK (cs:=bC (at9 x.m A13 c13)) bn aZ rfl ((hm5.from_ (ai.rfl_.next E19)).whole)) ?_))))))));have hMe:ai _ w7:=(ai.rfl_.next E19);have hke:=hk4.from_ hMe;refine cq (vs:=[_,_,_,_,_,_,_,_,_,_,_,_,_]) aZ rfl rfl (by simp [Value.oneCell']) (hke) rfl ?_;intro w8 O3 P3;have hoe:=(ho13m.from_ hMe).off hke (by decide) O3;refine ak (ag (aE (aG (lW rfl (dY (cs:=[_,_,_,_,_,_,_,_,_,_,_,_,_]) bn aZ rfl (by exact P3.whole)) ?_))));exact ⟨⟨A13,c13,rfl,⟨er hoe.o hz13⟩⟩,((((((((ai.rfl_.next E2).next E3).next E4).next E13).next E5).only O1 (hg5)).next E19).only O3 (hg4))⟩
end Go.Proofs.YtkpooenofjdpmaaGreat
