/- texts that the claim stands on. -/
import Derived.Test.YtkpooenofjdpmaaGreatSlRfLawV16

set_option maxRecDepth 100000
set_option maxHeartbeats 4000000
namespace Go.Proofs.YtkpooenofjdpmaaGreat
open Go.Proofs.Tryz (prog)
open Go.RowKit
open Go.ChangeShapes Go.WideShapes Go.ChangeAt
def eJ (k:Nat) (l:List Msg):Prop:=l.length≤k∧∀ m∈l,m.es.length≤16
theorem eJ.nil {k:Nat}:eJ k []:=⟨Nat.zero_le _,fun m hm=>by cases hm⟩
theorem eJ.tell {k:Nat} {p:Sp} (h:eJ k p.out) {m:Msg} (hm:m.es.length≤16):eJ (k+1) (p.tell m).out:=by
 refine ⟨by show (p.out++[_]).length≤_;rw [List.length_append,List.length_singleton];have:=h.1;omega,fun x hx=>?_⟩;rcases List.mem_append.1 hx with e | e
 ·exact h.2 x e
 ·obtain rfl:=List.mem_singleton.1 e;exact hm
theorem q_ (s:Rf) (to:Int):(kA s to).es.length≤16:=by
 unfold kA;simp only;split
 ·exact Nat.zero_le _
 ·show ((s.es.drop _).take 16).length≤16;rw [List.length_take];omega
theorem eJ.sends {k:Nat} {p:Sp} (h:eJ k p.out) (l:List Int):eJ (k+l.length) (p.sends l).out:=by
 rw [kz];refine ⟨by rw [List.length_append,List.length_map];have:=h.1;omega,fun x hx=>?_⟩;rcases List.mem_append.1 hx with e | e
 ·exact h.2 x e
 ·obtain ⟨y,_,rfl⟩:=List.mem_map.1 e;exact q_ _ _
theorem eJ.up {k j:Nat} {l:List Msg} (h:eJ k l) (hj:k≤j):eJ j l:=⟨Nat.le_trans h.1 hj,h.2⟩
theorem eJ.all {k:Nat} {p:Sp} (h:eJ k p.out) (hn:p.s.nodes≤7):eJ (k+7) p.all.out:=(h.sends (dM p.s)).up (by have:=lI p.s;omega)
theorem eJ.lead {k:Nat} {p:Sp} (h:eJ k p.out) (hn:p.s.nodes≤7):eJ (k+7) (lZ p).out:=by
 unfold lZ;split
 ·exact h.up (by omega)
 ·exact eJ.all (p:=⟨_,p.out⟩) h hn
theorem eJ.wins {k:Nat} {p:Sp} (h:eJ k p.out) (hn:p.s.nodes≤7):eJ (k+7) (kj p).out:=by
 unfold kj;split
 ·exact h.lead hn
 ·exact h.up (by omega)
theorem RfF.leads {p:Sp} (h:RfF p.s):RfF (lZ p).s:=by
 unfold lZ;split
 ·exact h.falls h.te.2
 ·rename_i hf;have hf':il p.s=false:=by simpa using hf
  have h1:=h.lead hf';show RfF (dE (Sp.all ⟨_,p.out⟩).s);rw [mP];exact h1.settle rfl
theorem RfF.wins {p:Sp} (h:RfF p.s):RfF (kj p).s:=by
 unfold kj;split
 ·exact h.leads
 ·exact h
theorem bw.chgT {w w':World} {tag:Nat→Nat} {s:Rf} {a:Ra} {U:Nat→Prop} (h:bw w tag s a) (hC:Chg U w w') (hU:∀ q,q<w.heap.size→U q→tag q=8∨tag q=6∨∃ j,tag q=1000+2*j):bw w' tag s a:=by
 have mv:∀ {d e s n cc:Nat} {A:Option Addr} {xs:List Value},StC d→w.ownsRow 0 e s (.slice A n cc) n xs∧Col tag d A→w'.ownsRow 0 e s (.slice A n cc) n xs∧Col tag d A:=fun hd h=>⟨eH h.1 hC (fun k hk e=>by
  have h1:=h.2 k hk;have h8:=hd.eight;have h6:=hd.six;rcases hU k (ej h.1 k hk) e with e | e | ⟨j,e⟩
  ·omega
  ·omega
  ·have:=hd.even j;omega),h.2⟩
 exact ⟨fun hx=>mv (.inl (by decide)) (h.e hx),fun hx=>mv (.inl (by decide)) (h.v hx),fun hx=>mv (.inl (by decide)) (h.x hx),fun hx=>mv (.inl (by decide)) (h.m hx),fun hx=>mv (.inl (by decide)) (h.n hx),h.r,fun hx=>mv (.inl (by decide)) (h.q hx),fun i hi hx=>mv (.inr ⟨i,rfl⟩) (h.k i hi hx)⟩
theorem eF.chgT {w w':World} {tag:Nat→Nat} {out:List Msg} {O:Option Addr} {oc:Nat} {L:List Msg} {U:Nat→Prop} (h:eF w tag out O oc L) (hC:Chg U w w') (hU:∀ q,q<w.heap.size→U q→tag q=8∨StC (tag q)):eF w' tag out O oc L:=by
 have mv:∀ {d e s n cc:Nat} {A:Option Addr} {xs:List Value},(d=6∨∃ j,d=1000+2*j)→w.ownsRow 0 e s (.slice A n cc) n xs∧Col tag d A→w'.ownsRow 0 e s (.slice A n cc) n xs∧Col tag d A:=fun hd h=>⟨eH h.1 hC (fun k hk e=>by
  have h1:=h.2 k hk;rcases hU k (ej h.1 k hk) e with e | e
  ·rcases hd with hd | ⟨j,hd⟩ <;> omega
  ·rcases hd with hd | ⟨j,hd⟩
   ·have:=e.six;omega
   ·have:=e.even j;omega),h.2⟩
 exact ⟨(mv (.inl rfl) ⟨h.o,h.c⟩).1,h.l,fun j hj=>mv (.inr ⟨j,rfl⟩) (h.e j hj),h.c⟩
theorem eF.len {w:World} {tag:Nat→Nat} {out:List Msg} {O:Option Addr} {oc:Nat} {L:List Msg} (h:eF w tag out O oc L):L.length=out.length:=by
 have h9:=congrArg List.length h.l;rw [List.length_map] at h9;exact h9
theorem eF.es {w:World} {tag:Nat→Nat} {out:List Msg} {O:Option Addr} {oc:Nat} {L:List Msg} {k:Nat} (h:eF w tag out O oc L) (ho:eJ k out):∀ x∈L,x.es.length≤16:=fun x hx=>by
 have h1:pl x∈out:=by rw [←h.l];exact List.mem_map_of_mem hx
 exact (show (pl x).es.length≤16 from ho.2 _ h1)
theorem eF.ents {w:World} {tag:Nat→Nat} {out:List Msg} {O:Option Addr} {oc:Nat} {L:List Msg} (h:eF w tag out O oc L):∀ x∈L,cF w (.slice x.E x.es.length x.c) x.es:=fun x hx=>by
 obtain ⟨j,hj,rfl⟩:=List.getElem_of_mem hx;exact cF.of_own (h.e j hj).1 rfl
theorem yd {w:World} {tag tag':Nat→Nat} {out:List Msg} {O O':Option Addr} {oc oc':Nat} {L L':List Msg} (h:eF w tag out O oc L) (h':eF w tag' out O' oc' L') (ho:eJ 1000 out) :
 Rt prog 50 [.slice O L.length oc,.slice O' L'.length oc'] w fun v w'=>v=.bool true∧ai w w':=by
 have e:=h'.len.trans h.len.symm;have hl:=h.len;have h1:=ho.1;rw [e];exact rJ O O' oc oc' L.length L L' w (im.own nF (by decide) h.o).2 (im.own nF (by decide) h'.o).2 rfl e (h.l.trans h'.l.symm) h.ents h'.ents (fun x hx=>by have:=h.es ho x hx;omega) (by omega)
def UBs (z b4 b11:Nat):Nat→Prop:=fun q=>q=b11∨q=b4∨z≤q
theorem mx (s:Rf) (a:Ra) (w:World) (hrd:eX w s a) (hl:s.votes.length≤1000000∧s.next.length≤1000000∧s.mtch.length≤1000000∧s.sent.length≤1000000∧s.reads.length≤1000000∧∀ q∈s.reads,q.acks.length≤1000000) {b:Bool} (hm:ik s=b):Rt prog 30 [.agg (rfV s a).toArray] w fun v w'=>v=.bool b∧ai w w':=by
 subst hm;exact xO s a w hrd hl
theorem mg (i:Int) (n N:Nat) (w:World) (hn:0<n∧n≤1000) (h:wiN i n=N):Rt prog 31 [.int .i64 i,.int .i64 (n:Nat)] w fun v w'=>v=.int .i64 (N:Nat)∧w=w':=by
 subst h;exact iQ i n w hn
theorem sz7 {s:Rf} (hl:s.votes.length≤1000000∧s.next.length≤1000000∧s.mtch.length≤1000000∧s.sent.length≤1000000∧s.reads.length≤1000000∧∀ q∈s.reads,q.acks.length≤1000000) (hel:s.es.length≤1000000):s.es.length≤1000000∧s.votes.length≤1000000∧s.next.length≤1000000∧s.mtch.length≤1000000∧s.sent.length≤1000000∧s.reads.length≤1000000∧∀ q∈s.reads,q.acks.length≤1000000:=⟨hel,hl⟩
structure AC (w:World) (tag:Nat→Nat) (l:List Rd) (A:Option Addr) (c:Nat) (N:List (Rd×Option Addr×Nat)):Prop where
 q:w.ownsRow 0 54 4 (.slice A N.length c) N.length (N.flatMap rdV)
 r:N.map (fun q=>q.1)=l
 k:∀ (j:Nat) (h:j<N.length),w.ownsRow 0 3 1 (.slice N[j].2.1 N[j].1.acks.length N[j].2.2) N[j].1.acks.length (N[j].1.acks.map iV)∧Col tag (1000+2*j) N[j].2.1
 c:Col tag 6 A
section
variable {w w':World} {tag:Nat→Nat} {l:List Rd} {A:Option Addr} {c:Nat} {N:List (Rd×Option Addr×Nat)}
structure AB (w:World) (l:List Rd) (A:Option Addr) (N:List (Rd×Option Addr×Nat)):Prop where
 q:im 4 rdV w A N
 r:N.map (fun q=>q.1)=l
 k:∀ q∈N,IR w q.2.1 q.2.2 q.1.acks
end
def Sz7 (s:Rf):Prop:=s.es.length≤1000000∧s.votes.length≤1000000∧s.next.length≤1000000∧s.mtch.length≤1000000∧s.sent.length≤1000000∧s.reads.length≤1000000∧∀ q∈s.reads,q.acks.length≤1000000
theorem Sz7.settle {s:Rf} (h:Sz7 s):Sz7 (dE s):=by
 obtain ⟨h0,h1,h2,h3,h4,h5,h6⟩:=h;exact ⟨h0,h1,h2,by show (eM s.mtch s.id _).length≤_;rw [fJ];exact h3,h4,h5,h6⟩
end Go.Proofs.YtkpooenofjdpmaaGreat
namespace Go.Proofs.YtkpooenofjdpmaaGreat
open Go.Proofs.Tryz (prog)
open Go.RowKit
open Go.ChangeShapes Go.WideShapes Go.ChangeAt
open Go.RowKit
theorem RfF.sz {s:Rf} (h:RfF s):Sz7 s:=by
 have hn:=h.n;have hv:=h.vl;have hl:=h.last;have h1:=h.nx.1;have h2:=h.ma.1;have h3:=h.se.1;have h0:gn s≤7:=by unfold gn;split <;> omega
 have h4:=h.rl
 exact ⟨by omega,by omega,by omega,by omega,by omega,by omega,fun q hq=>by
  have h5:=h.rd q hq;unfold fQ at h5;simp only [Bool.and_eq_true] at h5;have:=uQ h5.2 hn.2;omega⟩
structure et (p:Sp):Prop where
 s:Sz7 p.s
 o:eJ 100 p.out
theorem et.nil {s:Rf} (h:Sz7 s):et ⟨s,[]⟩:=⟨h,eJ.nil⟩
theorem et.tell {s:Rf} {m:Msg} (h:Sz7 s) (hm:m.es.length≤16):et (Sp.tell ⟨s,[]⟩ m):=⟨h,(eJ.tell (k:=0) (p:=⟨s,[]⟩) eJ.nil hm).up (by decide)⟩
theorem et.send {s:Rf} (h:Sz7 s) (to:Int):et (Sp.send ⟨s,[]⟩ to):=et.tell h (q_ _ _)
theorem uM {s:Rf} (h:Sz7 s) (m:Msg):et (ga s m):=by
 unfold ga;split
 ·exact et.tell h (Nat.zero_le _)
 ·split
  ·exact et.tell h (Nat.zero_le _)
  ·exact et.nil h
theorem xz {s:Rf} (h:Sz7 s) (m:Msg):et (jG s m):=by
 unfold jG;simp only;split
 ·exact et.tell (s:={ s with vote:=m.f,elapsed:=0 }) h (Nat.zero_le _)
 ·exact et.tell h (Nat.zero_le _)
theorem vi {s:Rf} (h:RfF s) {m:Msg} (hf:1≤m.f∧m.f≤s.nodes):et (ss s m):=by
 unfold ss;split
 ·have h1:=h.voted hf;have hn:=h.n;exact ⟨(RfF.wins (p:=⟨{ s with votes:=ku s.votes m.f },[]⟩) h1).sz,(eJ.wins (k:=0) (p:=⟨{ s with votes:=ku s.votes m.f },[]⟩) eJ.nil hn.2).up (by decide)⟩
 ·exact et.nil h.sz
theorem u2 {s:Rf} (h:RfF s) (m:Msg):et (qw s m):=by
 unfold qw;simp only;split
 ·exact et.nil h.sz
 ·rename_i h1;split
  ·exact et.tell h.sz (Nat.zero_le _)
  ·rename_i h2;split
   ·exact et.nil h.sz
   ·have h3:fv s.b s.t m.ix m.lt s.es m.es=(0,false,(fv s.b s.t m.ix m.lt s.es m.es).2.2):=by
     have e1:(fv s.b s.t m.ix m.lt s.es m.es).1=0:=Decidable.byContradiction h1;have e2:(fv s.b s.t m.ix m.lt s.es m.es).2.1=false:=by simpa using h2
     exact Prod.ext e1 (Prod.ext e2 rfl)
    have h4:=(fT (wg h h3).2.1).2.2.2;have h5:=h.sz;exact et.tell (s:={ s with es:=_,commit:=_ }) ⟨Nat.le_trans h4 (by decide),h5.2⟩ (Nat.zero_le _)
theorem xQ {s:Rf} (h:Sz7 s) (m:Msg):et (vN s m):=by
 unfold vN;simp only
 have h1:Sz7 (if s.partOf≠m.ix then { s with partOf:=m.ix,part:=⟨#[]⟩ } else s):=by
  split <;> exact h
 generalize (if s.partOf≠m.ix then ({ s with partOf:=m.ix,part:=⟨#[]⟩ }:Rf) else s)=a at h1 ⊢
 split
 ·exact et.tell h (Nat.zero_le _)
 ·have h2:∀ b:Bool,Sz7 (if b=true then { a with part:=a.part++m.d } else a):=fun b=>by
   split <;> exact h1
  have h2:=h2 (decide (m.a=a.part.size)&&decide (a.part.size+m.d.size≤524288))
  generalize (if (decide (m.a=a.part.size)&&decide (a.part.size+m.d.size≤524288))=true then ({ a with part:=a.part++m.d }:Rf) else a)=c at h2 ⊢
  split
  ·refine et.tell (s:={ c with b:=_,t:=_,es:=_,snap:=_,commit:=_,part:=_,partOf:=_ }) ⟨?_,h2.2⟩ (Nat.zero_le _);show (if _ then c.es.drop _ else []).length≤_;have:=h2.1;split
   ·rw [List.length_drop];omega
   ·exact Nat.zero_le _
  ·exact et.tell h2 (Nat.zero_le _)
theorem x9 {s:Rf} (h:RfF s) {m:Msg} (hf:1≤m.f∧m.f≤s.nodes):et (wA s m):=by
 unfold wA;simp only;split
 ·exact et.nil h.sz
 ·have h1:RfF (if s.role=1 then bC s s.term else s)∧(if s.role=1 then bC s s.term else s).nodes=s.nodes:=by
   split
   ·exact ⟨h.falls h.te.2,(oD s s.term).2.2.2.2.1⟩
   ·exact ⟨h,rfl⟩
  generalize (if s.role=1 then bC s s.term else s)=c at h1 ⊢
  have h2:RfF { c with leader:=m.f,elapsed:=0 }:=h1.1.hear ⟨by omega,by rw [h1.2];exact hf.2⟩;split
  ·exact u2 h2 m
  ·exact xQ h2.sz m
theorem Sz7.put {s:Rf} (h:Sz7 s) {N M S:List Int} (h1:N.length=s.next.length) (h2:M.length=s.mtch.length) (h3:S.length=s.sent.length):Sz7 { s with next:=N,mtch:=M,sent:=S }:=by
 obtain ⟨a0,a1,a2,a3,a4,a5,a6⟩:=h;exact ⟨a0,a1,by show N.length≤_;omega,by show M.length≤_;omega,by show S.length≤_;omega,a5,a6⟩
theorem xB {s0:Rf} (h:RfF s0) {m:Msg} (hf:1≤m.f∧m.f≤s0.nodes):et (vj s0 m):=by
 unfold vj;split
 ·exact et.nil h.sz
 ·have hs:=(h.ack (rn:=m.rd) hf).sz;simp only
  generalize w_ s0 m.f m.rd=s at hs ⊢
  split
  ·split
   ·exact et.send (s:={ s with sent:=eM s.sent m.f m.a }) (Sz7.put hs rfl rfl (fJ _ _ _)) _
   ·exact et.nil hs
  ·split
   ·exact et.send (s:={ s with next:=_,sent:=_ }) (Sz7.put hs (fJ _ _ _) rfl (fJ _ _ _)) _
   ·split
    ·have h1:∀ x y:Int,Sz7 (dE { s with mtch:=eM s.mtch m.f x,next:=eM s.next m.f y,sent:=eM s.sent m.f 0 }):=fun x y=>Sz7.settle (Sz7.put hs (fJ _ _ _) (fJ _ _ _) (fJ _ _ _))
     split
     ·exact et.send (h1 _ _) _
     ·exact et.nil (h1 _ _)
    ·exact et.nil hs
theorem xF {s:Rf} (h:RfF s) {m:Msg} (hf:1≤m.f∧m.f≤s.nodes) (ht:m.tm≤1099511627775):et (cN s m):=by
 unfold cN;simp only
 have h1:RfF (if s.term<m.tm then bC s m.tm else s)∧(if s.term<m.tm then bC s m.tm else s).nodes=s.nodes:=by
  split
  ·exact ⟨h.falls ht,(oD s m.tm).2.2.2.2.1⟩
  ·exact ⟨h,rfl⟩
 generalize (if s.term<m.tm then bC s m.tm else s)=a at h1 ⊢
 have hf':1≤m.f∧m.f≤a.nodes:=by rw [h1.2];exact hf
 split
 ·exact uM h1.1.sz m
 ·split
  ·exact xz h1.1.sz m
  ·split
   ·exact vi h1.1 hf'
   ·split
    ·exact x9 h1.1 hf'
    ·exact xB h1.1 hf'
end Go.Proofs.YtkpooenofjdpmaaGreat
namespace Go.Proofs.YtkpooenofjdpmaaGreat
open Go.Proofs.Tryz (prog)
open Go.RowKit
open Go.ChangeShapes Go.WideShapes Go.ChangeAt
theorem p0:aR prog 98=true:=by kernel_rfl
theorem pZ:ki prog 99=some (.agg #[.int .i64 0,.int .i64 0,.string ⟨#[]⟩]):=by kernel_rfl
theorem p4:aR prog 88=true:=by kernel_rfl
def OkM (m:Msg):Prop:=OkR m.k m.f m.t m.tm m.ix m.lt m.cm m.rd m.ok m.es m.a m.d m.dn
instance (m:Msg):Decidable (OkM m):=by unfold OkM;exact inferInstance
def pc (s:Rf) (m:Msg):Prop:=OkM m∧wC s m=true
instance (s:Rf) (m:Msg):Decidable (pc s m):=by unfold pc;exact inferInstance
def Em (w:World) (m:Msg):Prop:=cF w (.slice m.E m.es.length m.c) m.es
theorem Em.from_ {w w':World} {m:Msg} (h:Em w m) (hF:ai w w'):Em w' m:=cF.from_ h hF
theorem t_ {m:Msg} {w:World} (he:Em w m) (hl:m.es.length≤1000000) {e:Int} (h:(if OkM m then (0:Int) else 1)=e):Rt prog 98 [.agg (bM m).toArray] w fun v w'=>v=.int .i64 e∧ai w w':=by
 subst h;exact yk m.k m.f m.t m.tm m.ix m.lt m.cm m.rd m.ok m.E m.es.length m.c m.a m.d m.dn w m.es rfl he (by omega)
theorem yC {m:Msg} {w:World} (he:Em w m) (hl:m.es.length≤1000000) {b:Bool} (h:decide (OkM m)=b):Rt prog 88 [.agg (bM m).toArray] w fun v w'=>v=.bool b∧ai w w':=by
 subst h;exact zH m.k m.f m.t m.tm m.ix m.lt m.cm m.rd m.ok m.E m.es.length m.c m.a m.d m.dn w m.es rfl he (by omega)
theorem en (s:Rf) (m:Msg):wC s m=true↔m.t=s.id∧m.f≠s.id∧m.f≤s.nodes∧((m.k=3∨m.k=5)→m.lt≤m.tm∧∀ e∈m.es,e.t≤m.tm):=by
 unfold wC;simp only [Bool.and_eq_true,Bool.or_eq_true,decide_eq_true_eq,List.all_eq_true,Bool.not_eq_true',Bool.or_eq_false_iff,decide_eq_false_iff_not];constructor
 ·rintro ⟨⟨⟨h1,h2⟩,h3⟩,h4⟩;exact ⟨h1,h2,h3,fun hk=>h4.elim (fun e=>by omega) (fun e=>e)⟩
 ·rintro ⟨h1,h2,h3,h4⟩;refine ⟨⟨⟨h1,h2⟩,h3⟩,?_⟩;by_cases hk:m.k=3∨m.k=5
  ·exact .inr (h4 hk)
  ·exact .inl (by omega)
theorem OkM.num {m:Msg} (h:OkM m):gH m.k m.f m.t m.tm m.ix m.lt m.cm m.rd m.a:=h.1
theorem wH {w:World} {A:Option Addr} {n c:Nat} {es:List Ent} (h:cF w (.slice A n c) es) (hn:0<es.length):∃ b o,A=some ⟨b,o,none⟩∧∀ i (hi:i<es.length),w.rangeAt b (o+i*3) [.int .i64 es[i].i,.int .i64 es[i].t,.string es[i].d]:=lf h hn
theorem s9 (s:Rf) (a:Ra) (m:Msg) (w:World) (he:Em w m) (hl:m.es.length≤1000000) (hok:¬ OkM m) :
 Rt prog 57 [.agg (rfV s a).toArray,.agg (bM m).toArray] w (fun v w'=>v=.bool false∧ai w w'):=by
 refine enter (n:=57) Tryz.func57 rfl rfl rfl (ak (ag (bZ (v:=.agg _) rfl ?_)));intro b2 w1 E2 hb2 hk2;refine bZ (v:=.agg _) rfl ?_;intro b3 w2 E3 hb3 hk3;replace hk2:=hk2.from_ E3;refine asb rfl (aj (af (ak (ak (ag (ab (aG (cs:=bM m) bk aP rfl ((hk3.from_ ai.rfl_).whole)) (aB p0 (t_ (he.from_ ((ai.rfl_.next E2).next E3)) hl (if_neg hok)) ?_)))))));rintro v8 w3 ⟨rfl,E8⟩;refine ab (cQ (dG rfl rfl) rfl) (mvb rfl (ao rfl rfl (ao rfl rfl (ao rfl rfl (ao rfl rfl (ao rfl rfl (ab (aJ (v:=.bool _) rfl rfl) (mvb rfl ?_))))))));refine ao rfl rfl (ao rfl rfl (ao rfl rfl (ao rfl rfl (ao rfl rfl (ab (aJ (v:=.bool _) rfl rfl) (mvb rfl (ao rfl rfl (ao rfl rfl ?_))))))));refine ao rfl rfl (ao rfl rfl (ao rfl rfl (ab (aJ (v:=.bool _) rfl rfl) (aj (af (aL rfl (ak (ag (asb rfl (aj (af (aC (az ?_)))))))))))));refine bo (v:=.bool _) rfl rfl (⟨rfl,(((ai.rfl_.next E2).next E3).next E8)⟩)
theorem s8 (s:Rf) (a:Ra) (m:Msg) (w:World) (he:Em w m) (hl:m.es.length≤1000000) (hok:OkM m) :
 Rt prog 57 [.agg (rfV s a).toArray,.agg (bM m).toArray] w (fun v w'=>v=.bool (wC s m)∧ai w w'):=by
 obtain ⟨Ee,hEe⟩:∃ x,x=m.E:=⟨_,rfl⟩;refine enter (n:=57) Tryz.func57 rfl rfl rfl (ak (ag (bZ (v:=.agg _) rfl ?_)));intro b2 w1 E2 hb2 hk2;refine bZ (v:=.agg _) rfl ?_;intro b3 w2 E3 hb3 hk3;replace hk2:=hk2.from_ E3;refine asb rfl (aj (af (ak (ak (ag (ab (aG (cs:=bM m) bk aP rfl ((hk3.from_ ai.rfl_).whole)) (aB p0 (t_ (he.from_ ((ai.rfl_.next E2).next E3)) hl (if_pos hok)) ?_)))))));rintro v8 w3 ⟨rfl,E8⟩;refine ab (cJ (dG rfl rfl) rfl) (mvb rfl (ae rfl (ab (aa bA rfl) (ae rfl (ab (aq an rfl (by exact (show _=some (Value.int .i64 m.f) from (hk3.from_ (ai.rfl_.next E8)).rd 1 rfl))) ?_)))));refine ae rfl (ab (aa bX rfl) (ae rfl (ab (aq an rfl (by exact (show _=some (Value.int .i64 s.nodes) from (hk2.from_ (ai.rfl_.next E8)).rd 1 rfl))) ?_)));refine ae rfl (ab (bS rfl rfl) (ab (aw (v:=.bool _) rfl rfl) (mvb rfl (zt (t:=17) rfl (fun Q4=>?_) (fun Q4=>?_)))))
 ·refine bc rfl (aj (af (aL rfl (ak (ag (asb rfl (aj (af (aC (az (bo (v:=.bool _) rfl rfl (⟨congrArg Value.bool ?_,(((ai.rfl_.next E2).next E3).next E8)⟩))))))))))));rw [eq_comm,←Bool.not_eq_true,en];rintro ⟨h1,h2,h3,-⟩;omega
 refine ae rfl (ab (aa ez rfl) (ae rfl (ab (aq an rfl (by exact (show _=some (Value.int .i64 m.t) from (hk3.from_ (ai.rfl_.next E8)).rd 2 rfl))) ?_)));refine ae rfl (ab (aa cM rfl) (ae rfl (ab (aq an rfl (by exact (show _=some (Value.int .i64 s.id) from (hk2.from_ (ai.rfl_.next E8)).rd 0 rfl))) ?_)));refine ae rfl (ab (dG rfl rfl) (ab (aw (v:=.bool _) rfl rfl) (mvb rfl (zp (t:=24) rfl (fun Q5=>?_) (fun Q5=>?_)))))
 ·refine bc rfl (aj (af (aL rfl (ak (ag (asb rfl (aj (af (aC (az (bo (v:=.bool _) rfl rfl (⟨congrArg Value.bool ?_,(((ai.rfl_.next E2).next E3).next E8)⟩))))))))))));rw [eq_comm,←Bool.not_eq_true,en];rintro ⟨h1,h2,h3,-⟩;omega
 refine ae rfl (ab (aa bA rfl) (ae rfl (ab (aq an rfl (by exact (show _=some (Value.int .i64 m.f) from (hk3.from_ (ai.rfl_.next E8)).rd 1 rfl))) ?_)));refine ae rfl (ab (aa cM rfl) (ae rfl (ab (aq an rfl (by exact (show _=some (Value.int .i64 s.id) from (hk2.from_ (ai.rfl_.next E8)).rd 0 rfl))) ?_)));refine ae rfl (ab (bj rfl rfl) (ab (aw (v:=.bool _) rfl rfl) (aj (af (Ab rfl (fun Q6=>?_) (fun Q6=>?_))))))
 ·refine ak (ag (asb rfl (aj (af (aC (az (bo (v:=.bool _) rfl rfl (⟨congrArg Value.bool ?_,(((ai.rfl_.next E2).next E3).next E8)⟩))))))));rw [eq_comm,←Bool.not_eq_true,en];rintro ⟨h1,h2,h3,-⟩;omega
 refine aM (af (ak (ak (ag (ab (aa cw rfl) (ab (aq an rfl (by exact (show _=some (Value.int .i64 m.k) from (hk3.from_ (ai.rfl_.next E8)).rd 0 rfl))) ?_))))));refine ab (dG rfl rfl) (mvb rfl (zp (t:=34) rfl (fun Q7=>?_) (fun Q7=>?_)))
 ·refine ae rfl (ab (aa cw rfl) (ae rfl (ab (aq an rfl (by exact (show _=some (Value.int .i64 m.k) from (hk3.from_ (ai.rfl_.next E8)).rd 0 rfl))) ?_)));refine ae rfl (ab (dG rfl rfl) (ab (aJ (v:=.bool _) rfl rfl) (aj (af (zZ rfl (fun Q8=>?_) (fun Q8=>?_))))))
  ·refine ak (ag (asb rfl (aj (af (aC (az (bo (v:=.bool _) rfl rfl (⟨congrArg Value.bool ?_,(((ai.rfl_.next E2).next E3).next E8)⟩))))))));rw [eq_comm,en];exact ⟨by omega,by omega,by omega,fun h=>by omega⟩
  refine aM (af (ak (ak (ag (ab (aa dC rfl) ?_)))));refine ab (aq cY rfl (by exact (show _=some (Value.slice Ee m.es.length m.c) from by rw [hEe];exact (hk3.from_ (ai.rfl_.next E8)).rd 9 rfl))) ?_;refine ab (bW cC rfl) (mvi rfl (aj (af (bg (dd (G:=Nat) [4,6,43,44,45,46,47,48,49,50,51] (fun i=>[(42,.int .i64 (i:Nat))]) (fun i w'=>i≤m.es.length∧(∀ j (h:j<m.es.length),j<i→m.es[j].t≤m.tm)∧Blk w' b3 39 (bM m).toArray∧ai w w') (fun i=>m.es.length-i) (0) ⟨rfl,trivial⟩ ?_ ?_)))))
  ·exact ⟨Nat.zero_le _,fun j _ h=>absurd h (Nat.not_lt_zero _),hk3.from_ (ai.rfl_.next E8),(((ai.rfl_.next E2).next E3).next E8)⟩
  rintro i ρ9 w9 ⟨hi,hj,hk3L,hB⟩;refine ak (ag (ab (b_ rfl rfl) (aj (af (ak (Ab rfl (fun Q10=>?_) (fun Q10=>?_)))))))
  ·have hkX:i<m.es.length:=by omega
   obtain ⟨ba,oa,hE2,hca⟩:=wH he (by omega);obtain rfl:Ee=some ⟨ba,oa,none⟩:=hEe.trans hE2;refine aM (af (ak (bg (ak (ag (ab (cn dN rfl rfl (by omega)) (ab (aG (cs:=[.int .i64 m.es[i].i,.int .i64 m.es[i].t,.string m.es[i].d]) jX gG rfl (eB hB (hca i hkX))) ?_)))))));have hM6:ai _ w9:=ai.rfl_;have hlt6:=(hk3L.from_ hM6).lt;refine cf pZ ?_;intro b6 w11 E6 hb6 hk6;have hg6:w.heap.size≤b6:=by rw [hb6];exact (hB).size
   have h36:b3≠b6:=by omega
   have hk3p:=hk3L.from_ (hM6.next E6);refine b0 (vs:=[_,_,_]) gG rfl rfl (by simp [Value.oneCell']) (hk6) rfl ?_;intro w12 O7 P7;replace hk3p:=hk3p.only O7 h36;refine aj (af (ak (ag (ab (aa jm rfl) (ab (aq an rfl (by exact (show _=some (Value.int .i64 m.es[i].t) from (P7.from_ ai.rfl_).rd 1 rfl))) ?_)))));refine ab (aa bu rfl) (ab (aq an rfl (by exact (show _=some (Value.int .i64 m.tm) from (hk3p.from_ ai.rfl_).rd 3 rfl))) ?_);refine ab (bS rfl rfl) (aj (af (Ab rfl (fun Q13=>?_) (fun Q13=>?_))))
   ·refine ak (ag (asb rfl (aj (af (aC (aZ (az (az (aZ (az (bo (v:=.bool _) rfl rfl (⟨congrArg Value.bool ?_,((hB.next E6).only O7 (hg6))⟩))))))))))));rw [eq_comm,←Bool.not_eq_true,en];rintro ⟨h1,h2,h3,h4⟩;have h5:=(h4 (by omega)).2 _ (List.getElem_mem hkX);omega
   refine aM (bE (af (ag (ab (cq rfl rfl (by omega)) (mvi rfl (aj ?_))))));refine cu (i+1) ⟨(by first | rfl | (refine bT ?_;omega)),trivial⟩ (by (iterate 23 refine bI rfl ?_);exact bU) ⟨?_,?_⟩
   ·refine ⟨by omega,fun j h hj2=>?_,hk3p.from_ ai.rfl_,((hB.next E6).only O7 (hg6))⟩;rcases Nat.lt_or_ge j i with e | e
    ·exact hj j h e
    ·obtain rfl:j=i:=by omega
     omega
   ·omega
  refine cI (bD (bD (cr (af (ak (ag (ab (aa ck rfl) (ab (aq an rfl (by exact (show _=some (Value.int .i64 m.lt) from (hk3L.from_ ai.rfl_).rd 5 rfl))) ?_))))))));refine ab (aa bu rfl) (ab (aq an rfl (by exact (show _=some (Value.int .i64 m.tm) from (hk3L.from_ ai.rfl_).rd 3 rfl))) ?_);refine ab (gu rfl rfl) (asb rfl (aj (af (aC (bo (v:=.bool _) rfl rfl (⟨congrArg Value.bool ?_,hB⟩))))));obtain rfl:i=m.es.length:=by omega
  rw [eq_comm,Bool.eq_iff_iff,en,decide_eq_true_eq]
  exact ⟨fun h=>(h.2.2.2 (by omega)).1,fun h=>⟨by omega,by omega,by omega,fun _=>⟨h,fun e hE=>by
   obtain ⟨j,hj9,rfl⟩:=List.getElem_of_mem hE;exact hj j hj9 hj9⟩⟩⟩
 refine bc rfl (aj (af (br rfl (aM (af (ak (ak (ag (ab (aa dC rfl) ?_)))))))));refine ab (aq cY rfl (by exact (show _=some (Value.slice Ee m.es.length m.c) from by rw [hEe];exact (hk3.from_ (ai.rfl_.next E8)).rd 9 rfl))) ?_;refine ab (bW cC rfl) (mvi rfl (aj (af (bg (dd (G:=Nat) [4,6,43,44,45,46,47,48,49,50,51] (fun i=>[(42,.int .i64 (i:Nat))]) (fun i w'=>i≤m.es.length∧(∀ j (h:j<m.es.length),j<i→m.es[j].t≤m.tm)∧Blk w' b3 39 (bM m).toArray∧ai w w') (fun i=>m.es.length-i) (0) ⟨rfl,trivial⟩ ?_ ?_)))))
 ·exact ⟨Nat.zero_le _,fun j _ h=>absurd h (Nat.not_lt_zero _),hk3.from_ (ai.rfl_.next E8),(((ai.rfl_.next E2).next E3).next E8)⟩
 rintro i ρ14 w14 ⟨hi,hj,hk3L,hB⟩;refine ak (ag (ab (b_ rfl rfl) (aj (af (ak (Ab rfl (fun Q15=>?_) (fun Q15=>?_)))))))
 ·have hkX:i<m.es.length:=by omega
  obtain ⟨ba,oa,hE2,hca⟩:=wH he (by omega);obtain rfl:Ee=some ⟨ba,oa,none⟩:=hEe.trans hE2;refine aM (af (ak (bg (ak (ag (ab (cn dN rfl rfl (by omega)) (ab (aG (cs:=[.int .i64 m.es[i].i,.int .i64 m.es[i].t,.string m.es[i].d]) jX gG rfl (eB hB (hca i hkX))) ?_)))))));have hM6:ai _ w14:=ai.rfl_;have hlt6:=(hk3L.from_ hM6).lt;refine cf pZ ?_;intro b6 w16 E6 hb6 hk6;have hg6:w.heap.size≤b6:=by rw [hb6];exact (hB).size
  have h36:b3≠b6:=by omega
  have hk3p:=hk3L.from_ (hM6.next E6);refine b0 (vs:=[_,_,_]) gG rfl rfl (by simp [Value.oneCell']) (hk6) rfl ?_;intro w17 O7 P7;replace hk3p:=hk3p.only O7 h36;refine aj (af (ak (ag (ab (aa jm rfl) (ab (aq an rfl (by exact (show _=some (Value.int .i64 m.es[i].t) from (P7.from_ ai.rfl_).rd 1 rfl))) ?_)))));refine ab (aa bu rfl) (ab (aq an rfl (by exact (show _=some (Value.int .i64 m.tm) from (hk3p.from_ ai.rfl_).rd 3 rfl))) ?_);refine ab (bS rfl rfl) (aj (af (Ab rfl (fun Q18=>?_) (fun Q18=>?_))))
  ·refine ak (ag (asb rfl (aj (af (aC (aZ (az (az (aZ (az (bo (v:=.bool _) rfl rfl (⟨congrArg Value.bool ?_,((hB.next E6).only O7 (hg6))⟩))))))))))));rw [eq_comm,←Bool.not_eq_true,en];rintro ⟨h1,h2,h3,h4⟩;have h5:=(h4 (by omega)).2 _ (List.getElem_mem hkX);omega
  refine aM (bE (af (ag (ab (cq rfl rfl (by omega)) (mvi rfl (aj ?_))))));refine cu (i+1) ⟨(by first | rfl | (refine bT ?_;omega)),trivial⟩ (by (iterate 23 refine bI rfl ?_);exact bU) ⟨?_,?_⟩
  ·refine ⟨by omega,fun j h hj2=>?_,hk3p.from_ ai.rfl_,((hB.next E6).only O7 (hg6))⟩;rcases Nat.lt_or_ge j i with e | e
   ·exact hj j h e
   ·obtain rfl:j=i:=by omega
    omega
  ·omega
 refine cI (bD (bD (cr (af (ak (ag (ab (aa ck rfl) (ab (aq an rfl (by exact (show _=some (Value.int .i64 m.lt) from (hk3L.from_ ai.rfl_).rd 5 rfl))) ?_))))))));refine ab (aa bu rfl) (ab (aq an rfl (by exact (show _=some (Value.int .i64 m.tm) from (hk3L.from_ ai.rfl_).rd 3 rfl))) ?_);refine ab (gu rfl rfl) (asb rfl (aj (af (aC (bo (v:=.bool _) rfl rfl (⟨congrArg Value.bool ?_,hB⟩))))));obtain rfl:i=m.es.length:=by omega
 rw [eq_comm,Bool.eq_iff_iff,en,decide_eq_true_eq]
 exact ⟨fun h=>(h.2.2.2 (by omega)).1,fun h=>⟨by omega,by omega,by omega,fun _=>⟨h,fun e hE=>by
  obtain ⟨j,hj9,rfl⟩:=List.getElem_of_mem hE;exact hj j hj9 hj9⟩⟩⟩
theorem oP (s:Rf) (a:Ra) (m:Msg) (w:World) (he:Em w m) (hl:m.es.length≤1000000) {b:Bool} (h:decide (pc s m)=b):Rt prog 57 [.agg (rfV s a).toArray,.agg (bM m).toArray] w fun v w'=>v=.bool b∧ai w w':=by
 subst h;by_cases hok:OkM m
 ·refine (s8 s a m w he hl hok).mono fun v w' h=>⟨h.1.trans (congrArg Value.bool ?_),h.2⟩
  rw [Bool.eq_iff_iff,decide_eq_true_eq];exact ⟨fun h=>⟨hok,h⟩,fun h=>h.2⟩
 ·exact (s9 s a m w he hl hok).mono fun v w' h=>⟨h.1.trans (congrArg Value.bool (decide_eq_false (fun e=>hok e.1)).symm),h.2⟩
theorem sI (s:Rf) (a:Ra) (m:Msg) (w:World) (he:Em w m) (hl:m.es.length≤1000000) (hk:m.k≠3∧m.k≠5) (hok:¬ OkM m) :
 Rt prog 45 [.agg (rfV s a).toArray,.agg (bM m).toArray] w (fun v w'=>v=.bool false∧ai w w'):=by
 refine enter (n:=61) Tryz.func45 rfl rfl rfl (ak (ag (bZ (v:=.agg _) rfl ?_)));intro b2 w1 E2 hb2 hk2;refine bZ (v:=.agg _) rfl ?_;intro b3 w2 E3 hb3 hk3;replace hk2:=hk2.from_ E3;refine asb rfl (aj (af (ak (ak (ag (ab (aa cw rfl) (ab (aq an rfl (by exact (show _=some (Value.int .i64 m.k) from (hk3.from_ ai.rfl_).rd 0 rfl))) ?_)))))));refine ab (cJ (bj rfl rfl) (beq_eq_false_iff_ne.2 hk.1)) (mvb rfl (ae rfl (ab (aa cw rfl) (ae rfl (ab (aq an rfl (by exact (show _=some (Value.int .i64 m.k) from (hk3.from_ ai.rfl_).rd 0 rfl))) ?_)))));refine ae rfl (ab (cJ (bj rfl rfl) (beq_eq_false_iff_ne.2 hk.2)) (ab (aw (v:=.bool _) rfl rfl) (aj (af (br rfl (aM (af (ak (ag (ab (aG (cs:=bM m) bk aP rfl ((hk3.from_ ai.rfl_).whole)) (aB p4 (yC (he.from_ ((ai.rfl_.next E2).next E3)) hl (decide_eq_false hok)) ?_)))))))))));rintro v39 w3 ⟨rfl,E39⟩;refine mvb rfl (ao rfl rfl (ao rfl rfl (ao rfl rfl (ao rfl rfl (ao rfl rfl (ab (aw (v:=.bool _) rfl rfl) (mvb rfl (ao rfl rfl ?_))))))));refine ao rfl rfl (ao rfl rfl (ao rfl rfl (ao rfl rfl (ab (aw (v:=.bool _) rfl rfl) (mvb rfl (ao rfl rfl (ao rfl rfl (ao rfl rfl ?_))))))));refine ao rfl rfl (ao rfl rfl (ab (aw (v:=.bool _) rfl rfl) (asb rfl (aj (af (aC (bo (v:=.bool _) rfl rfl ?_)))))))
 first
  |exact ⟨rfl,(((ai.rfl_.next E2).next E3).next E39)⟩
  |omega
theorem sH (s:Rf) (a:Ra) (m:Msg) (w:World) (he:Em w m) (hl:m.es.length≤1000000) (hk:m.k≠3∧m.k≠5) (hok:OkM m) :
 Rt prog 45 [.agg (rfV s a).toArray,.agg (bM m).toArray] w (fun v w'=>v=.bool (wC s m)∧ai w w'):=by
 refine enter (n:=61) Tryz.func45 rfl rfl rfl (ak (ag (bZ (v:=.agg _) rfl ?_)));intro b2 w1 E2 hb2 hk2;refine bZ (v:=.agg _) rfl ?_;intro b3 w2 E3 hb3 hk3;replace hk2:=hk2.from_ E3;refine asb rfl (aj (af (ak (ak (ag (ab (aa cw rfl) (ab (aq an rfl (by exact (show _=some (Value.int .i64 m.k) from (hk3.from_ ai.rfl_).rd 0 rfl))) ?_)))))));refine ab (cJ (bj rfl rfl) (beq_eq_false_iff_ne.2 hk.1)) (mvb rfl (ae rfl (ab (aa cw rfl) (ae rfl (ab (aq an rfl (by exact (show _=some (Value.int .i64 m.k) from (hk3.from_ ai.rfl_).rd 0 rfl))) ?_)))));refine ae rfl (ab (cJ (bj rfl rfl) (beq_eq_false_iff_ne.2 hk.2)) (ab (aw (v:=.bool _) rfl rfl) (aj (af (br rfl (aM (af (ak (ag (ab (aG (cs:=bM m) bk aP rfl ((hk3.from_ ai.rfl_).whole)) (aB p4 (yC (he.from_ ((ai.rfl_.next E2).next E3)) hl (decide_eq_true hok)) ?_)))))))))));rintro v39 w3 ⟨rfl,E39⟩;refine mvb rfl (ae rfl (ab (aa ez rfl) (ae rfl (ab (aq an rfl (by exact (show _=some (Value.int .i64 m.t) from (hk3.from_ (ai.rfl_.next E39)).rd 2 rfl))) ?_))));refine ae rfl (ab (aa cM rfl) (ae rfl (ab (aq an rfl (by exact (show _=some (Value.int .i64 s.id) from (hk2.from_ (ai.rfl_.next E39)).rd 0 rfl))) ?_)));refine ae rfl (ab (bj rfl rfl) (ab (aJ (v:=.bool _) rfl rfl) (mvb rfl (zr (t:=47) rfl (fun Q4=>?_) (fun Q4=>?_)))))
 ·refine ae rfl (ab (aa bA rfl) (ae rfl (ab (aq an rfl (by exact (show _=some (Value.int .i64 m.f) from (hk3.from_ (ai.rfl_.next E39)).rd 1 rfl))) ?_)));refine ae rfl (ab (aa cM rfl) (ae rfl (ab (aq an rfl (by exact (show _=some (Value.int .i64 s.id) from (hk2.from_ (ai.rfl_.next E39)).rd 0 rfl))) ?_)));refine ae rfl (ab (dG rfl rfl) (ab (aJ (v:=.bool _) rfl rfl) (mvb rfl (aF (t:=54) rfl (fun Q5=>?_) (fun Q5=>?_)))))
  ·replace Q5:=dw Q5;replace Q5:=ee Q5;refine ae rfl (ab (aa bA rfl) (ae rfl (ab (aq an rfl (by exact (show _=some (Value.int .i64 m.f) from (hk3.from_ (ai.rfl_.next E39)).rd 1 rfl))) ?_)));refine ae rfl (ab (aa bX rfl) (ae rfl (ab (aq an rfl (by exact (show _=some (Value.int .i64 s.nodes) from (hk2.from_ (ai.rfl_.next E39)).rd 1 rfl))) ?_)));refine ae rfl (ab (gu rfl rfl) (ab (aJ (v:=.bool _) rfl rfl) (asb rfl (aj (af (aC (bo (v:=.bool _) rfl rfl ?_)))))))
   first
    |omega
    |(refine ⟨congrArg Value.bool ?_,(((ai.rfl_.next E2).next E3).next E39)⟩;first | (rw [eq_comm,←Bool.not_eq_true,en];rintro ⟨h1,h2,h3,-⟩;omega) | (rw [eq_comm,Bool.eq_iff_iff,en,decide_eq_true_eq];exact ⟨fun h=>h.2.2.1,fun h=>⟨by omega,by omega,h,fun e=>by omega⟩⟩) | (rw [eq_comm,en];exact ⟨by omega,by omega,by omega,fun e=>by omega⟩))
  replace Q5:=dy Q5;replace Q5:=ed Q5;refine ao rfl rfl (ao rfl rfl (ao rfl rfl (ao rfl rfl (ao rfl rfl (ab (aw (v:=.bool _) rfl rfl) (asb rfl (aj (af (aC (bo (v:=.bool _) rfl rfl ?_))))))))))
  first
   |omega
   |(refine ⟨congrArg Value.bool ?_,(((ai.rfl_.next E2).next E3).next E39)⟩;first | (rw [eq_comm,←Bool.not_eq_true,en];rintro ⟨h1,h2,h3,-⟩;omega) | (rw [eq_comm,Bool.eq_iff_iff,en,decide_eq_true_eq];exact ⟨fun h=>h.2.2.1,fun h=>⟨by omega,by omega,h,fun e=>by omega⟩⟩) | (rw [eq_comm,en];exact ⟨by omega,by omega,by omega,fun e=>by omega⟩))
 refine ao rfl rfl (ao rfl rfl (ao rfl rfl (ao rfl rfl (ao rfl rfl (ab (aw (v:=.bool _) rfl rfl) (mvb rfl (ao rfl rfl (ao rfl rfl ?_))))))));refine ao rfl rfl (ao rfl rfl (ao rfl rfl (ab (aw (v:=.bool _) rfl rfl) (asb rfl (aj (af (aC (bo (v:=.bool _) rfl rfl ?_))))))))
 first
  |omega
  |(refine ⟨congrArg Value.bool ?_,(((ai.rfl_.next E2).next E3).next E39)⟩;first | (rw [eq_comm,←Bool.not_eq_true,en];rintro ⟨h1,h2,h3,-⟩;omega) | (rw [eq_comm,Bool.eq_iff_iff,en,decide_eq_true_eq];exact ⟨fun h=>h.2.2.1,fun h=>⟨by omega,by omega,h,fun e=>by omega⟩⟩) | (rw [eq_comm,en];exact ⟨by omega,by omega,by omega,fun e=>by omega⟩))
theorem ow (s:Rf) (a:Ra) (m:Msg) (w:World) (he:Em w m) (hl:m.es.length≤1000000) (hk:m.k≠3∧m.k≠5) {b:Bool} (h:decide (pc s m)=b):Rt prog 45 [.agg (rfV s a).toArray,.agg (bM m).toArray] w fun v w'=>v=.bool b∧ai w w':=by
 subst h;by_cases hok:OkM m
 ·refine (sH s a m w he hl hk hok).mono fun v w' h=>⟨h.1.trans (congrArg Value.bool ?_),h.2⟩
  rw [Bool.eq_iff_iff,decide_eq_true_eq];exact ⟨fun h=>⟨hok,h⟩,fun h=>h.2⟩
 ·exact (sI s a m w he hl hk hok).mono fun v w' h=>⟨h.1.trans (congrArg Value.bool (decide_eq_false (fun e=>hok e.1)).symm),h.2⟩
theorem jf:∀ (a0:Int) (a1:Int) (a2:Bool),prog.built 39 [(0,.int .i64 4),(8,.bool a2),(4,.int .i64 a0),(7,.int .i64 a1)]=some #[.int .i64 4,.int .i64 0,.int .i64 0,.int .i64 0,.int .i64 a0,.int .i64 0,.int .i64 0,.int .i64 a1,.bool a2,.slice none 0 0,.int .i64 0,.string ⟨#[]⟩,.bool false]:=by intros;kernel_rfl
theorem kM:prog.built 39 [(0,.int .i64 2)]=some #[.int .i64 2,.int .i64 0,.int .i64 0,.int .i64 0,.int .i64 0,.int .i64 0,.int .i64 0,.int .i64 0,.bool false,.slice none 0 0,.int .i64 0,.string ⟨#[]⟩,.bool false]:=by kernel_rfl
theorem ni:aR prog 144=true:=by kernel_rfl
theorem jy:aR prog 145=true:=by kernel_rfl
theorem eP:∀ (a0:Bool),prog.built 39 [(0,.int .i64 2),(8,.bool a0)]=some #[.int .i64 2,.int .i64 0,.int .i64 0,.int .i64 0,.int .i64 0,.int .i64 0,.int .i64 0,.int .i64 0,.bool a0,.slice none 0 0,.int .i64 0,.string ⟨#[]⟩,.bool false]:=by intros;kernel_rfl
theorem rT:aR prog 100=true:=by kernel_rfl
theorem nj:aR prog 101=true:=by kernel_rfl
def aT (s:Rf) (m:Msg):Rf:=if s.term<m.tm then bC s m.tm else s
theorem jH {s:Rf} {m:Msg} (h:s.term<m.tm):cN s m=cN (bC s m.tm) m:=by
 have h1:=dq s m.tm;unfold cN;simp only;rw [if_pos h,if_neg (show ¬ (bC s m.tm).term<m.tm by omega)]
theorem kx {s:Rf} {m:Msg} (h:m.tm<s.term):cN s m=ga s m:=by
 unfold cN;simp only;rw [if_neg (show ¬ s.term<m.tm by omega),if_pos h]
theorem iw {s:Rf} {m:Msg} (h:s.term=m.tm) (hk:m.k=1):cN s m=jG s m:=by
 unfold cN;simp only;rw [if_neg (show ¬ s.term<m.tm by omega),if_neg (show ¬ m.tm<s.term by omega),if_pos hk]
theorem zu (s:Rf) (m:Msg):(gg s.b s.t s.es m.ix m.lt=false)∨(gg s.b s.t s.es m.ix m.lt=true∧s.vote=0)∨(gg s.b s.t s.es m.ix m.lt=true∧s.vote≠0∧s.vote=m.f)∨(gg s.b s.t s.es m.ix m.lt=true∧s.vote≠0∧s.vote≠m.f):=by
 cases gg s.b s.t s.es m.ix m.lt with
 |false=>exact .inl rfl
 |true=>
  by_cases h1:s.vote=0
  ·exact .inr (.inl ⟨rfl,h1⟩)
  ·by_cases h2:s.vote=m.f
   ·exact .inr (.inr (.inl ⟨rfl,h1,h2⟩))
   ·exact .inr (.inr (.inr ⟨rfl,h1,h2⟩))
theorem mi {s:Rf} {m:Msg} (h:gg s.b s.t s.es m.ix m.lt=true) (h2:s.vote=0∨s.vote=m.f):jG s m=Sp.tell ⟨{ s with vote:=m.f,elapsed:=0 },[]⟩ { zM with k:=2,t:=m.f,ok:=true }:=by
 have e:(gg s.b s.t s.es m.ix m.lt&&(decide (s.vote=0)||decide (s.vote=m.f)))=true:=by
  rw [h,Bool.true_and,Bool.or_eq_true,decide_eq_true_eq,decide_eq_true_eq];exact h2
 unfold jG;rw [e];rfl
theorem kv {s:Rf} {m:Msg} (h:gg s.b s.t s.es m.ix m.lt=false∨(s.vote≠0∧s.vote≠m.f)):jG s m=Sp.tell ⟨s,[]⟩ { zM with k:=2,t:=m.f,ok:=false }:=by
 have e:(gg s.b s.t s.es m.ix m.lt&&(decide (s.vote=0)||decide (s.vote=m.f)))=false:=by
  rcases h with h | ⟨h,h2⟩
  ·rw [h];rfl
  ·rw [decide_eq_false h,decide_eq_false h2];simp
 unfold jG;rw [e];rfl
theorem gQ.nilL {w:World} {Z:Nat→Prop} {T g oc:Nat} {tag:Nat→Nat} {s:Rf} {a:Ra} {O:Option Addr} {L:List Msg} (h:gQ w Z T g tag ⟨s,[]⟩ a O oc L):L=[]:=List.map_eq_nil_iff.1 h.m.l
theorem tD (w0:World) (Z:Nat→Prop) (T g:Nat) (p:Sp) (m:Msg) (ok:Bool) (i:Int) (w:World) (h:a_ w0 Z w T g p) (hl:p.out.length≤900) :
 Rt prog 144 [.pointer (some ⟨g,0,none⟩),.agg (bM m).toArray,.bool ok,.int .i64 i] w (fun v w'=>v=.tuple #[]∧a_ w0 Z w' T g (ph p m ok i)):=by
 refine enter (n:=17) Tryz.func144 rfl rfl rfl (ak (ag (bZ (v:=.agg _) rfl ?_)));intro b5 w1 E5 hb5 hk5;obtain ⟨wm,hwm⟩:∃ x,x=w1:=⟨_,rfl⟩
 have h3a:=h.at_ (Z':=fun k=>Z k∨k=b5) E5 (fun k hk=>by
  rcases hk with e | e
  ·exact ⟨Nat.lt_of_lt_of_le (h.zw k e) E5.size,.inl e⟩
  ·subst e;exact ⟨hk5.lt,.inr (by omega)⟩)
 obtain ⟨Z7,hZ7⟩:∃ Z7,Z7=fun k=>Z k∨k=b5:=⟨_,rfl⟩
 have h3:a_ wm Z7 w1 T g p:=by
  rw [hZ7,hwm];exact h3a
 have hzi:∀ k,Z k→Z7 k:=fun k hk=>by rw [hZ7];exact .inl hk
 have hzb:Z7 b5:=by rw [hZ7];exact .inr rfl
 have hE3:ai w wm:=by rw [hwm];exact E5
 have hm9:Blk wm b5 39 (bM m).toArray:=by rw [hwm];exact hk5
 have hm3:=h3.kept hzb hm9;refine aj (af (ag (mvp rfl (ab (aa bA rfl) (ab (aq an rfl (by exact (show _=some (Value.int .i64 m.f) from (hm3.from_ ai.rfl_).rd 1 rfl))) ?_)))));refine mvb rfl (mvi rfl (ab (aa dg rfl) (ab (aq an rfl (by exact (show _=some (Value.int .i64 m.rd) from (hm3.from_ ai.rfl_).rd 7 rfl))) ?_)));refine ab (cp (l:=[(0,.const (.int .i64 4)),(8,.tmp 11),(4,.tmp 12),(7,.tmp 14)]) (jf _ _ _)) (dm (t:=15) (v:=.agg _) (v':=.agg (bM ({ zM with k:=4,ok:=ok,ix:=i,rd:=m.rd }:Msg)).toArray) rfl (by rfl) ?_);have h4:=h3.from_ ai.rfl_;obtain ⟨tgA,aA,OA,ocA,LA,hsA⟩:=h4.ex;have hlA:=hsA.m.len;refine aB fj (j8 wm Z7 T g p _ h4 _ _ _ _ _ hsA (by omega) { zM with k:=4,ok:=ok,ix:=i,rd:=m.rd } m.f ⟨c6,Col.none⟩) ?_;rintro v16 w2 ⟨rfl,h6⟩;refine aj (cR (ey rfl (⟨rfl,h.back hE3 (h6.from_ ai.rfl_) hzi⟩)))
theorem uN (w0:World) (Z:Nat→Prop) (T g:Nat) (s:Rf) (m:Msg) (w:World) (h:a_ w0 Z w T g ⟨s,[]⟩) :
 Rt prog 100 [.pointer (some ⟨g,0,none⟩),.agg (bM m).toArray] w (fun v w'=>v=.tuple #[]∧a_ w0 Z w' T g (ga s m)):=by
 refine enter (n:=19) Tryz.func100 rfl rfl rfl (ak (ag (bZ (v:=.agg _) rfl ?_)));intro b3 w1 E3 hb3 hk3;obtain ⟨wm,hwm⟩:∃ x,x=w1:=⟨_,rfl⟩
 have h3a:=h.at_ (Z':=fun k=>Z k∨k=b3) E3 (fun k hk=>by
  rcases hk with e | e
  ·exact ⟨Nat.lt_of_lt_of_le (h.zw k e) E3.size,.inl e⟩
  ·subst e;exact ⟨hk3.lt,.inr (by omega)⟩)
 obtain ⟨Z7,hZ7⟩:∃ Z7,Z7=fun k=>Z k∨k=b3:=⟨_,rfl⟩
 have h3:a_ wm Z7 w1 T g ⟨s,[]⟩:=by
  rw [hZ7,hwm];exact h3a
 have hzi:∀ k,Z k→Z7 k:=fun k hk=>by rw [hZ7];exact .inl hk
 have hzb:Z7 b3:=by rw [hZ7];exact .inr rfl
 have hE3:ai w wm:=by rw [hwm];exact E3
 have hm9:Blk wm b3 39 (bM m).toArray:=by rw [hwm];exact hk3
 have hm3:=h3.kept hzb hm9;refine aj (af (ak (ag (ab (aa cw rfl) (ab (aq an rfl (by exact (show _=some (Value.int .i64 m.k) from (hm3.from_ ai.rfl_).rd 0 rfl))) ?_)))));refine aj (af (bg (ak (ag (ab (bj rfl rfl) (asb rfl (aj (af (Aa rfl (fun Q2=>?_) (fun Q2=>?_))))))))))
 ·refine ag (mvp rfl (ab (aa bA rfl) (ab (aq an rfl (by exact (show _=some (Value.int .i64 m.f) from (hm3.from_ ai.rfl_).rd 1 rfl))) ?_)));refine ab (cp (l:=[(0,.const (.int .i64 2))]) (kM)) (dm (t:=11) (v:=.agg _) (v':=.agg (bM ({ zM with k:=2 }:Msg)).toArray) rfl (by rfl) ?_);have h4:=h3.from_ ai.rfl_;obtain ⟨tgA,aA,OA,ocA,LA,hsA⟩:=h4.ex;obtain rfl:=hsA.nilL;refine aB fj (j8 wm Z7 T g ⟨s,[]⟩ _ h4 _ _ _ _ _ hsA (Nat.zero_le _) { zM with k:=2 } m.f ⟨c6,Col.none⟩) ?_;rintro v12 w3 ⟨rfl,h6⟩;refine aj (bE (cR (ey rfl ?_)));unfold ga
  first
   |(rw [if_pos (show m.k=1 by omega)];exact ⟨rfl,h.back hE3 (h6.from_ ai.rfl_) hzi⟩)
   |(rw [if_neg (show ¬ m.k=1 by omega),if_pos (show m.k=3∨m.k=5 by omega)];exact ⟨rfl,h.back hE3 (h6.from_ ai.rfl_) hzi⟩)
   |(rw [if_neg (show ¬ m.k=1 by omega),if_neg (show ¬ (m.k=3∨m.k=5) by omega)];exact ⟨rfl,h.from_ (E3.next ai.rfl_)⟩)
 refine ak (ak (ag (ab (bj rfl rfl) (asb rfl (aj (af (Aa rfl (fun Q4=>?_) (fun Q4=>?_))))))))
 ·refine aM (af (Aa rfl (fun Q5=>?_) (fun Q5=>?_)));rotate_left
  ·exfalso;omega
  refine ag (mvp rfl (ab (aG (cs:=bM m) bk aP rfl ((hm3.from_ ai.rfl_).whole)) (aB ni (tD wm Z7 T g ⟨s,[]⟩ m false 0 _ (h3.from_ ai.rfl_) (Nat.zero_le _)) ?_)));rintro v18 w6 ⟨rfl,h6⟩;refine aj (bE (cR (ey rfl ?_)));unfold ga
  first
   |(rw [if_pos (show m.k=1 by omega)];exact ⟨rfl,h.back hE3 (h6.from_ ai.rfl_) hzi⟩)
   |(rw [if_neg (show ¬ m.k=1 by omega),if_pos (show m.k=3∨m.k=5 by omega)];exact ⟨rfl,h.back hE3 (h6.from_ ai.rfl_) hzi⟩)
   |(rw [if_neg (show ¬ m.k=1 by omega),if_neg (show ¬ (m.k=3∨m.k=5) by omega)];exact ⟨rfl,h.from_ (E3.next ai.rfl_)⟩)
 refine ag (ab (bj rfl rfl) (asb rfl (aj (af (Aa rfl (fun Q7=>?_) (fun Q7=>?_))))))
 ·refine ag (mvp rfl (ab (aG (cs:=bM m) bk aP rfl ((hm3.from_ ai.rfl_).whole)) (aB ni (tD wm Z7 T g ⟨s,[]⟩ m false 0 _ (h3.from_ ai.rfl_) (Nat.zero_le _)) ?_)));rintro v18 w8 ⟨rfl,h6⟩;refine aj (bE (cR (ey rfl ?_)));unfold ga
  first
   |(rw [if_pos (show m.k=1 by omega)];exact ⟨rfl,h.back hE3 (h6.from_ ai.rfl_) hzi⟩)
   |(rw [if_neg (show ¬ m.k=1 by omega),if_pos (show m.k=3∨m.k=5 by omega)];exact ⟨rfl,h.back hE3 (h6.from_ ai.rfl_) hzi⟩)
   |(rw [if_neg (show ¬ m.k=1 by omega),if_neg (show ¬ (m.k=3∨m.k=5) by omega)];exact ⟨rfl,h.from_ (E3.next ai.rfl_)⟩)
 refine aM (bE (cR (ey rfl ?_)));unfold ga
 first
  |(rw [if_pos (show m.k=1 by omega)];exact ⟨rfl,h.back hE3 (h6.from_ ai.rfl_) hzi⟩)
  |(rw [if_neg (show ¬ m.k=1 by omega),if_pos (show m.k=3∨m.k=5 by omega)];exact ⟨rfl,h.back hE3 (h6.from_ ai.rfl_) hzi⟩)
  |(rw [if_neg (show ¬ m.k=1 by omega),if_neg (show ¬ (m.k=3∨m.k=5) by omega)];exact ⟨rfl,h.from_ (E3.next ai.rfl_)⟩)
theorem lW (s:Rf) (m:Msg) (A:Option Addr) (c:Nat) (w:World) (h:cF w (.slice A s.es.length c) s.es) (hm:cD s.b s.t s.es=true) {b:Bool} (hb:gg s.b s.t s.es m.ix m.lt=b):Rt prog 145 [.agg #[.int .i64 s.b,.int .i64 s.t,.slice A s.es.length c],.int .i64 m.ix,.int .i64 m.lt] w fun v w'=>v=.tuple #[.bool b,.int .i64 0]∧ai w w':=by
 subst hb;exact vT s.b s.t m.ix m.lt A c s.es w h hm
theorem yO (w0:World) (Z:Nat→Prop) (T g:Nat) (s:Rf) (m:Msg) (w:World) (h:a_ w0 Z w T g ⟨s,[]⟩) (hF:RfF s) (hn:gg s.b s.t s.es m.ix m.lt=false) :
 Rt prog 101 [.pointer (some ⟨g,0,none⟩),.agg (bM m).toArray] w (fun v w'=>v=.tuple #[]∧a_ w0 Z w' T g (jG s m)):=by
 refine enter (n:=61) Tryz.func101 rfl rfl rfl (ak (ag (bZ (v:=.agg _) rfl ?_)));intro b3 w1 E3 hb3 hk3;obtain ⟨wm,hwm⟩:∃ x,x=w1:=⟨_,rfl⟩
 have h3a:=h.at_ (Z':=fun k=>Z k∨k=b3) E3 (fun k hk=>by
  rcases hk with e | e
  ·exact ⟨Nat.lt_of_lt_of_le (h.zw k e) E3.size,.inl e⟩
  ·subst e;exact ⟨hk3.lt,.inr (by omega)⟩)
 obtain ⟨Z7,hZ7⟩:∃ Z7,Z7=fun k=>Z k∨k=b3:=⟨_,rfl⟩
 have h3:a_ wm Z7 w1 T g ⟨s,[]⟩:=by
  rw [hZ7,hwm];exact h3a
 have hzi:∀ k,Z k→Z7 k:=fun k hk=>by rw [hZ7];exact .inl hk
 have hzb:Z7 b3:=by rw [hZ7];exact .inr rfl
 have hE3:ai w wm:=by rw [hwm];exact E3
 have hm9:Blk wm b3 39 (bM m).toArray:=by rw [hwm];exact hk3
 have hm3:=h3.kept hzb hm9;obtain ⟨tgV,aV,OV,ocV,LV,hsV⟩:=h3.ex;have heV:=(bw.rd hsV.f).e;refine aj (af (ak ?_));apply bK 16 [(8,eqp _),(9,eqp _),(10,eqp _),(11,eqp _),(12,eqp _),(13,eqp (.agg #[.int .i64 s.b,.int .i64 s.t,.slice aV.E s.es.length aV.Ec])),(14,eqp _),(15,eqp (.int .i64 m.ix)),(16,eqp _),(17,eqp (.int .i64 m.lt)),(18,eqp _),(7,eqp _),(19,eqp _),(20,eqp _),(4,eqp _),(5,eqp _)] (by repeat first | exact cj | refine ch ?_ | refine bQ ?_) (by kernel_rfl) (by kernel_rfl) ⟨ah _,ah _,ah _,ah _,ah _,ah _,ah _,ah _,ah _,ah _,ah _,ah _,ah _,ah _,ah _,ah _,trivial⟩
 case hop=>
  constructor
  ·rintro-w3 D3;exact ar (aH (v:=.pointer _) rfl) rfl
  constructor
  ·rintro-w4 D4;rintro _ rfl;exact ar (ay rfl) rfl
  constructor
  ·rintro-w5 D5;rintro _ rfl;exact ar (aa aN rfl) rfl
  constructor
  ·rintro-w6 D6;rintro _ rfl;exact ar (aa aE rfl) rfl
  constructor
  ·rintro-w7 D7;rintro _ rfl;exact ar (aa bq rfl) rfl
  constructor
  ·rintro-w8 D8;rintro _ rfl;exact ar (aG (cs:=[.int .i64 s.b,.int .i64 s.t,.slice aV.E s.es.length aV.Ec]) bB bd rfl (fB (hsV.b.from_ (ai.rfl_.next D8)))) rfl
  constructor
  ·rintro-w9 D9;exact ar (aa bR rfl) rfl
  constructor
  ·rintro-w10 D10;rintro _ rfl;exact ar (aq an rfl (by exact (show _=some (Value.int .i64 m.ix) from (hm3.from_ (ai.rfl_.next D10)).rd 4 rfl))) rfl
  constructor
  ·rintro-w11 D11;exact ar (aa ck rfl) rfl
  constructor
  ·rintro-w12 D12;rintro _ rfl;exact ar (aq an rfl (by exact (show _=some (Value.int .i64 m.lt) from (hm3.from_ (ai.rfl_.next D12)).rd 5 rfl))) rfl
  constructor
  ·rintro-w13 D13;rintro v13_13 rfl v13_15 rfl v13_17 rfl;refine gd jy ((lW s m aV.E aV.Ec _ (heV.from_ (ai.rfl_.next D13)) hF.lg hn).mono ?_);rintro v _ ⟨rfl,E13'⟩;exact ⟨E13',rfl⟩
  constructor
  ·rintro-w14 D14;rintro _ rfl;exact ar (aH (v:=.tuple _) rfl) rfl
  constructor
  ·rintro-w15 D15;rintro _ rfl;exact ar (aY rfl rfl) rfl
  constructor
  ·rintro-w16 D16;rintro _ rfl;exact ar (aY rfl rfl) rfl
  constructor
  ·rintro-w17 D17;rintro _ rfl;exact ar (cy (v:=.bool _) rfl) rfl
  constructor
  ·rintro-w18 D18;rintro _ rfl;exact ar (cy (v:=.int _ _) rfl) rfl
  exact trivial
 case hend=>
  intro w19 D19;rintro _ rfl _ rfl _ rfl _ rfl _ rfl v13 rfl _ rfl v15 rfl _ rfl v17 rfl _ rfl _ rfl _ rfl _ rfl _ rfl _ rfl;show St ..;refine aj (af (ak ?_));apply bK 22 [(21,eqp _),(22,eqp _),(23,eqp _),(24,eqp _),(25,eqp _),(26,eqp _),(27,eqp _),(28,eqp _),(29,eqp _),(30,eqp _),(31,eqp _),(32,eqp _),(33,eqp _),(34,eqp _),(35,eqp _),(36,eqp _),(37,eqp _),(38,eqp _),(39,eqp _),(40,eqp _),(41,eqp _),(6,eqp _)] (by repeat first | exact cj | refine ch ?_ | refine bQ ?_) (by kernel_rfl) (by kernel_rfl) ⟨ah _,ah _,ah _,ah _,ah _,ah _,ah _,ah _,ah _,ah _,ah _,ah _,ah _,ah _,ah _,ah _,ah _,ah _,ah _,ah _,ah _,ah _,trivial⟩
  case hop=>
   constructor
   ·rintro-w21 D21;exact ar (aH (v:=.bool _) rfl) rfl
   constructor
   ·rintro-w22 D22;rintro _ rfl;exact ar (aH (v:=.bool _) rfl) rfl
   constructor
   ·rintro-w23 D23;rintro _ rfl;exact bJ rfl rfl rfl
   constructor
   ·rintro-w24 D24;rintro _ rfl _ rfl;exact bJ rfl rfl rfl
   constructor
   ·rintro-w25 D25;rintro _ rfl _ rfl;exact bJ rfl rfl rfl
   constructor
   ·rintro-w26 D26;rintro _ rfl _ rfl;exact bJ rfl rfl rfl
   constructor
   ·rintro-w27 D27;rintro _ rfl _ rfl;exact bJ rfl rfl rfl
   constructor
   ·rintro-w28 D28;rintro _ rfl _ rfl;exact bJ rfl rfl rfl
   constructor
   ·rintro-w29 D29;rintro _ rfl _ rfl;exact bJ rfl rfl rfl
   constructor
   ·rintro-w30 D30;rintro _ rfl _ rfl;exact bJ rfl rfl rfl
   constructor
   ·rintro-w31 D31;rintro _ rfl;exact iH rfl rfl
   constructor
   ·rintro-w32 D32;rintro _ rfl _ rfl;exact iH rfl rfl
   constructor
   ·rintro-w33 D33;rintro _ rfl _ rfl;exact iH rfl rfl
   constructor
   ·rintro-w34 D34;rintro _ rfl _ rfl;exact iH rfl rfl
   constructor
   ·rintro-w35 D35;rintro _ rfl _ rfl;exact iH rfl rfl
   constructor
   ·rintro-w36 D36;rintro _ rfl _ rfl;exact iH rfl rfl
   constructor
   ·rintro-w37 D37;rintro _ rfl;exact iH rfl rfl
   constructor
   ·rintro-w38 D38;rintro _ rfl _ rfl;exact iH rfl rfl
   constructor
   ·rintro-w39 D39;rintro _ rfl _ rfl _ rfl;exact iH rfl rfl
   constructor
   ·rintro-w40 D40;rintro _ rfl _ rfl _ rfl;exact bJ rfl rfl rfl
   constructor
   ·rintro-w41 D41;rintro _ rfl _ rfl;exact ar (aw (v:=.bool _) rfl rfl) rfl
   constructor
   ·rintro-w42 D42;rintro _ rfl;exact ar (cy (v:=.bool _) rfl) rfl
   exact trivial
  case hend=>
   intro w43 D43;rintro _ rfl _ rfl _ rfl _ rfl _ rfl _ rfl _ rfl _ rfl _ rfl _ rfl _ rfl _ rfl _ rfl _ rfl _ rfl _ rfl _ rfl _ rfl _ rfl _ rfl _ rfl _ rfl;show St ..;refine aj (af (ak (ak (ag (mvb rfl (aj (af (br rfl (aM (af (ag (mvp rfl (ab (aa bA rfl) (ab (aq an rfl (by exact (show _=some (Value.int .i64 m.f) from ((h3.kept hzb hm9).from_ ((ai.rfl_.next D19).next D43)).rd 1 rfl))) ?_))))))))))))));refine mvb rfl (ab (cp (l:=[(0,.const (.int .i64 2)),(8,.tmp 58)]) (eP _)) (dm (t:=59) (v:=.agg _) (v':=.agg (bM ({ zM with k:=2,ok:=false }:Msg)).toArray) rfl (by rfl) ?_));have h7:=h3.from_ ((ai.rfl_.next D19).next D43);obtain ⟨tgA,aA,OA,ocA,LA,hsA⟩:=h7.ex;obtain rfl:=hsA.nilL;refine aB fj (j8 wm Z7 T g ⟨s,[]⟩ _ h7 _ _ _ _ _ hsA (Nat.zero_le _) { zM with k:=2,ok:=false } m.f ⟨c6,Col.none⟩) ?_;rintro v60 w44 ⟨rfl,h6⟩;refine aj (cR (ey rfl ?_));rw [kv (.inl hn)];exact ⟨rfl,h.back hE3 (h6.from_ ai.rfl_) hzi⟩
theorem yN (w0:World) (Z:Nat→Prop) (T g:Nat) (s:Rf) (m:Msg) (w:World) (h:a_ w0 Z w T g ⟨s,[]⟩) (hF:RfF s) (hn:gg s.b s.t s.es m.ix m.lt=true) (hv:s.vote=0) :
 Rt prog 101 [.pointer (some ⟨g,0,none⟩),.agg (bM m).toArray] w (fun v w'=>v=.tuple #[]∧a_ w0 Z w' T g (jG s m)):=by
 refine enter (n:=61) Tryz.func101 rfl rfl rfl (ak (ag (bZ (v:=.agg _) rfl ?_)));intro b3 w1 E3 hb3 hk3;obtain ⟨wm,hwm⟩:∃ x,x=w1:=⟨_,rfl⟩
 have h3a:=h.at_ (Z':=fun k=>Z k∨k=b3) E3 (fun k hk=>by
  rcases hk with e | e
  ·exact ⟨Nat.lt_of_lt_of_le (h.zw k e) E3.size,.inl e⟩
  ·subst e;exact ⟨hk3.lt,.inr (by omega)⟩)
 obtain ⟨Z7,hZ7⟩:∃ Z7,Z7=fun k=>Z k∨k=b3:=⟨_,rfl⟩
 have h3:a_ wm Z7 w1 T g ⟨s,[]⟩:=by
  rw [hZ7,hwm];exact h3a
 have hzi:∀ k,Z k→Z7 k:=fun k hk=>by rw [hZ7];exact .inl hk
 have hzb:Z7 b3:=by rw [hZ7];exact .inr rfl
 have hE3:ai w wm:=by rw [hwm];exact E3
 have hm9:Blk wm b3 39 (bM m).toArray:=by rw [hwm];exact hk3
 have hm3:=h3.kept hzb hm9;obtain ⟨tgV,aV,OV,ocV,LV,hsV⟩:=h3.ex;have heV:=(bw.rd hsV.f).e;refine aj (af (ak ?_));apply bK 16 [(8,eqp _),(9,eqp _),(10,eqp _),(11,eqp _),(12,eqp _),(13,eqp (.agg #[.int .i64 s.b,.int .i64 s.t,.slice aV.E s.es.length aV.Ec])),(14,eqp _),(15,eqp (.int .i64 m.ix)),(16,eqp _),(17,eqp (.int .i64 m.lt)),(18,eqp _),(7,eqp _),(19,eqp _),(20,eqp _),(4,eqp _),(5,eqp _)] (by repeat first | exact cj | refine ch ?_ | refine bQ ?_) (by kernel_rfl) (by kernel_rfl) ⟨ah _,ah _,ah _,ah _,ah _,ah _,ah _,ah _,ah _,ah _,ah _,ah _,ah _,ah _,ah _,ah _,trivial⟩
 case hop=>
  constructor
  ·rintro-w3 D3;exact ar (aH (v:=.pointer _) rfl) rfl
  constructor
  ·rintro-w4 D4;rintro _ rfl;exact ar (ay rfl) rfl
  constructor
  ·rintro-w5 D5;rintro _ rfl;exact ar (aa aN rfl) rfl
  constructor
  ·rintro-w6 D6;rintro _ rfl;exact ar (aa aE rfl) rfl
  constructor
  ·rintro-w7 D7;rintro _ rfl;exact ar (aa bq rfl) rfl
  constructor
  ·rintro-w8 D8;rintro _ rfl;exact ar (aG (cs:=[.int .i64 s.b,.int .i64 s.t,.slice aV.E s.es.length aV.Ec]) bB bd rfl (fB (hsV.b.from_ (ai.rfl_.next D8)))) rfl
  constructor
  ·rintro-w9 D9;exact ar (aa bR rfl) rfl
  constructor
  ·rintro-w10 D10;rintro _ rfl;exact ar (aq an rfl (by exact (show _=some (Value.int .i64 m.ix) from (hm3.from_ (ai.rfl_.next D10)).rd 4 rfl))) rfl
  constructor
  ·rintro-w11 D11;exact ar (aa ck rfl) rfl
  constructor
  ·rintro-w12 D12;rintro _ rfl;exact ar (aq an rfl (by exact (show _=some (Value.int .i64 m.lt) from (hm3.from_ (ai.rfl_.next D12)).rd 5 rfl))) rfl
  constructor
  ·rintro-w13 D13;rintro v13_13 rfl v13_15 rfl v13_17 rfl;refine gd jy ((lW s m aV.E aV.Ec _ (heV.from_ (ai.rfl_.next D13)) hF.lg hn).mono ?_);rintro v _ ⟨rfl,E13'⟩;exact ⟨E13',rfl⟩
  constructor
  ·rintro-w14 D14;rintro _ rfl;exact ar (aH (v:=.tuple _) rfl) rfl
  constructor
  ·rintro-w15 D15;rintro _ rfl;exact ar (aY rfl rfl) rfl
  constructor
  ·rintro-w16 D16;rintro _ rfl;exact ar (aY rfl rfl) rfl
  constructor
  ·rintro-w17 D17;rintro _ rfl;exact ar (cy (v:=.bool _) rfl) rfl
  constructor
  ·rintro-w18 D18;rintro _ rfl;exact ar (cy (v:=.int _ _) rfl) rfl
  exact trivial
 case hend=>
  intro w19 D19;rintro _ rfl _ rfl _ rfl _ rfl _ rfl v13 rfl _ rfl v15 rfl _ rfl v17 rfl _ rfl _ rfl _ rfl _ rfl _ rfl _ rfl;show St ..;refine aj (af (ak ?_));apply bK 22 [(21,eqp _),(22,eqp _),(23,eqp _),(24,eqp _),(25,eqp _),(26,eqp _),(27,eqp _),(28,eqp _),(29,eqp _),(30,eqp _),(31,eqp _),(32,eqp _),(33,eqp _),(34,eqp _),(35,eqp _),(36,eqp _),(37,eqp _),(38,eqp _),(39,eqp _),(40,eqp _),(41,eqp _),(6,eqp _)] (by repeat first | exact cj | refine ch ?_ | refine bQ ?_) (by kernel_rfl) (by kernel_rfl) ⟨ah _,ah _,ah _,ah _,ah _,ah _,ah _,ah _,ah _,ah _,ah _,ah _,ah _,ah _,ah _,ah _,ah _,ah _,ah _,ah _,ah _,ah _,trivial⟩
  case hop=>
   constructor
   ·rintro-w21 D21;exact ar (aH (v:=.bool _) rfl) rfl
   constructor
   ·rintro-w22 D22;rintro _ rfl;exact ar (aH (v:=.bool _) rfl) rfl
   constructor
   ·rintro-w23 D23;rintro _ rfl;exact aD rfl (aH (v:=.pointer _) rfl) rfl
   constructor
   ·rintro-w24 D24;rintro _ rfl _ rfl;exact aD rfl (ay rfl) rfl
   constructor
   ·rintro-w25 D25;rintro _ rfl _ rfl;exact aD rfl (aa aN rfl) rfl
   constructor
   ·rintro-w26 D26;rintro _ rfl _ rfl;exact aD rfl (aa aE rfl) rfl
   constructor
   ·rintro-w27 D27;rintro _ rfl _ rfl;exact aD rfl (aa bY rfl) rfl
   constructor
   ·rintro-w28 D28;rintro _ rfl _ rfl;exact aD rfl (aq an rfl (by exact (show _=some (Value.int .i64 s.vote) from (h3.from_ ((ai.rfl_.next D19).next D28)).rd (fun _=>rfl)))) rfl
   constructor
   ·rintro-w29 D29;rintro _ rfl _ rfl;exact aD rfl (cQ (bj rfl rfl) (beq_iff_eq.2 hv)) rfl
   constructor
   ·rintro-w30 D30;rintro _ rfl _ rfl;exact aD rfl (aH (v:=.bool _) rfl) rfl
   constructor
   ·rintro-w31 D31;rintro _ rfl;exact bJ rfl rfl rfl
   constructor
   ·rintro-w32 D32;rintro _ rfl _ rfl;exact bJ rfl rfl rfl
   constructor
   ·rintro-w33 D33;rintro _ rfl _ rfl;exact bJ rfl rfl rfl
   constructor
   ·rintro-w34 D34;rintro _ rfl _ rfl;exact bJ rfl rfl rfl
   constructor
   ·rintro-w35 D35;rintro _ rfl _ rfl;exact bJ rfl rfl rfl
   constructor
   ·rintro-w36 D36;rintro _ rfl _ rfl;exact bJ rfl rfl rfl
   constructor
   ·rintro-w37 D37;rintro _ rfl;exact bJ rfl rfl rfl
   constructor
   ·rintro-w38 D38;rintro _ rfl _ rfl;exact bJ rfl rfl rfl
   constructor
   ·rintro-w39 D39;rintro _ rfl _ rfl _ rfl;exact bJ rfl rfl rfl
   constructor
   ·rintro-w40 D40;rintro _ rfl _ rfl _ rfl;exact aD rfl (aJ (v:=.bool _) rfl rfl) rfl
   constructor
   ·rintro-w41 D41;rintro _ rfl _ rfl;exact ar (aJ (v:=.bool _) rfl rfl) rfl
   constructor
   ·rintro-w42 D42;rintro _ rfl;exact ar (cy (v:=.bool _) rfl) rfl
   exact trivial
  case hend=>
   intro w43 D43;rintro _ rfl _ rfl _ rfl _ rfl _ rfl _ rfl _ rfl _ rfl _ rfl _ rfl _ rfl _ rfl _ rfl _ rfl _ rfl _ rfl _ rfl _ rfl _ rfl _ rfl _ rfl _ rfl;show St ..;refine aj (af (ak (ak (ag (mvb rfl (aj (af (aL rfl (ag (mvp rfl (mvp rfl (ab (aa bA rfl) (ab (aq an rfl (by exact (show _=some (Value.int .i64 m.f) from (hm3.from_ ((ai.rfl_.next D19).next D43)).rd 1 rfl))) ?_)))))))))))));refine ab (ay rfl) (ab (aa aN rfl) (ab (aa aE rfl) (ab (aa bY rfl) (fH (s':=({ s with vote:=m.f }:Rf)) aS rfl rfl rfl (h3.from_ ((ai.rfl_.next D19).next D43)) (fun _=>⟨by decide,rfl⟩) ⟨rfl,rfl,rfl,rfl,rfl,rfl⟩ ?_))));intro w44 h4;refine ab (ay rfl) (ab (aa aN rfl) (ab (aa aE rfl) (ab (aa c_ rfl) (fH (s':=({ s with vote:=m.f,elapsed:=0 }:Rf)) aS rfl rfl rfl (h4.from_ ai.rfl_) (fun _=>⟨by decide,rfl⟩) ⟨rfl,rfl,rfl,rfl,rfl,rfl⟩ ?_))));intro w45 h5;refine aj (af (ag (mvp rfl (ab (aa bA rfl) (ab (aq an rfl (by exact (show _=some (Value.int .i64 m.f) from ((h5.kept hzb hm9).from_ ai.rfl_).rd 1 rfl))) ?_)))));refine mvb rfl (ab (cp (l:=[(0,.const (.int .i64 2)),(8,.tmp 58)]) (eP _)) (dm (t:=59) (v:=.agg _) (v':=.agg (bM ({ zM with k:=2,ok:=true }:Msg)).toArray) rfl (by rfl) ?_));have h7:=h5.from_ ai.rfl_;obtain ⟨tgA,aA,OA,ocA,LA,hsA⟩:=h7.ex;obtain rfl:=hsA.nilL;refine aB fj (j8 wm Z7 T g ⟨({ s with vote:=m.f,elapsed:=0 }:Rf),[]⟩ _ h7 _ _ _ _ _ hsA (Nat.zero_le _) { zM with k:=2,ok:=true } m.f ⟨c6,Col.none⟩) ?_;rintro v60 w46 ⟨rfl,h6⟩;refine aj (cR (ey rfl ?_));rw [mi hn (.inl hv)];exact ⟨rfl,h.back hE3 (h6.from_ ai.rfl_) hzi⟩
theorem yM (w0:World) (Z:Nat→Prop) (T g:Nat) (s:Rf) (m:Msg) (w:World) (h:a_ w0 Z w T g ⟨s,[]⟩) (hF:RfF s) (hn:gg s.b s.t s.es m.ix m.lt=true) (hv:s.vote≠0) (hu:s.vote=m.f) :
 Rt prog 101 [.pointer (some ⟨g,0,none⟩),.agg (bM m).toArray] w (fun v w'=>v=.tuple #[]∧a_ w0 Z w' T g (jG s m)):=by
 refine enter (n:=61) Tryz.func101 rfl rfl rfl (ak (ag (bZ (v:=.agg _) rfl ?_)));intro b3 w1 E3 hb3 hk3;obtain ⟨wm,hwm⟩:∃ x,x=w1:=⟨_,rfl⟩
 have h3a:=h.at_ (Z':=fun k=>Z k∨k=b3) E3 (fun k hk=>by
  rcases hk with e | e
  ·exact ⟨Nat.lt_of_lt_of_le (h.zw k e) E3.size,.inl e⟩
  ·subst e;exact ⟨hk3.lt,.inr (by omega)⟩)
 obtain ⟨Z7,hZ7⟩:∃ Z7,Z7=fun k=>Z k∨k=b3:=⟨_,rfl⟩
 have h3:a_ wm Z7 w1 T g ⟨s,[]⟩:=by
  rw [hZ7,hwm];exact h3a
 have hzi:∀ k,Z k→Z7 k:=fun k hk=>by rw [hZ7];exact .inl hk
 have hzb:Z7 b3:=by rw [hZ7];exact .inr rfl
 have hE3:ai w wm:=by rw [hwm];exact E3
 have hm9:Blk wm b3 39 (bM m).toArray:=by rw [hwm];exact hk3
 have hm3:=h3.kept hzb hm9;obtain ⟨tgV,aV,OV,ocV,LV,hsV⟩:=h3.ex;have heV:=(bw.rd hsV.f).e;refine aj (af (ak ?_));apply bK 16 [(8,eqp _),(9,eqp _),(10,eqp _),(11,eqp _),(12,eqp _),(13,eqp (.agg #[.int .i64 s.b,.int .i64 s.t,.slice aV.E s.es.length aV.Ec])),(14,eqp _),(15,eqp (.int .i64 m.ix)),(16,eqp _),(17,eqp (.int .i64 m.lt)),(18,eqp _),(7,eqp _),(19,eqp _),(20,eqp _),(4,eqp _),(5,eqp _)] (by repeat first | exact cj | refine ch ?_ | refine bQ ?_) (by kernel_rfl) (by kernel_rfl) ⟨ah _,ah _,ah _,ah _,ah _,ah _,ah _,ah _,ah _,ah _,ah _,ah _,ah _,ah _,ah _,ah _,trivial⟩
 case hop=>
  constructor
  ·rintro-w3 D3;exact ar (aH (v:=.pointer _) rfl) rfl
  constructor
  ·rintro-w4 D4;rintro _ rfl;exact ar (ay rfl) rfl
  constructor
  ·rintro-w5 D5;rintro _ rfl;exact ar (aa aN rfl) rfl
  constructor
  ·rintro-w6 D6;rintro _ rfl;exact ar (aa aE rfl) rfl
  constructor
  ·rintro-w7 D7;rintro _ rfl;exact ar (aa bq rfl) rfl
  constructor
  ·rintro-w8 D8;rintro _ rfl;exact ar (aG (cs:=[.int .i64 s.b,.int .i64 s.t,.slice aV.E s.es.length aV.Ec]) bB bd rfl (fB (hsV.b.from_ (ai.rfl_.next D8)))) rfl
  constructor
  ·rintro-w9 D9;exact ar (aa bR rfl) rfl
  constructor
  ·rintro-w10 D10;rintro _ rfl;exact ar (aq an rfl (by exact (show _=some (Value.int .i64 m.ix) from (hm3.from_ (ai.rfl_.next D10)).rd 4 rfl))) rfl
  constructor
  ·rintro-w11 D11;exact ar (aa ck rfl) rfl
  constructor
  ·rintro-w12 D12;rintro _ rfl;exact ar (aq an rfl (by exact (show _=some (Value.int .i64 m.lt) from (hm3.from_ (ai.rfl_.next D12)).rd 5 rfl))) rfl
  constructor
  ·rintro-w13 D13;rintro v13_13 rfl v13_15 rfl v13_17 rfl;refine gd jy ((lW s m aV.E aV.Ec _ (heV.from_ (ai.rfl_.next D13)) hF.lg hn).mono ?_);rintro v _ ⟨rfl,E13'⟩;exact ⟨E13',rfl⟩
  constructor
  ·rintro-w14 D14;rintro _ rfl;exact ar (aH (v:=.tuple _) rfl) rfl
  constructor
  ·rintro-w15 D15;rintro _ rfl;exact ar (aY rfl rfl) rfl
  constructor
  ·rintro-w16 D16;rintro _ rfl;exact ar (aY rfl rfl) rfl
  constructor
  ·rintro-w17 D17;rintro _ rfl;exact ar (cy (v:=.bool _) rfl) rfl
  constructor
  ·rintro-w18 D18;rintro _ rfl;exact ar (cy (v:=.int _ _) rfl) rfl
  exact trivial
 case hend=>
  intro w19 D19;rintro _ rfl _ rfl _ rfl _ rfl _ rfl v13 rfl _ rfl v15 rfl _ rfl v17 rfl _ rfl _ rfl _ rfl _ rfl _ rfl _ rfl;show St ..;refine aj (af (ak ?_));apply bK 22 [(21,eqp _),(22,eqp _),(23,eqp _),(24,eqp _),(25,eqp _),(26,eqp _),(27,eqp _),(28,eqp _),(29,eqp _),(30,eqp _),(31,eqp _),(32,eqp _),(33,eqp _),(34,eqp _),(35,eqp _),(36,eqp _),(37,eqp _),(38,eqp _),(39,eqp _),(40,eqp _),(41,eqp _),(6,eqp _)] (by repeat first | exact cj | refine ch ?_ | refine bQ ?_) (by kernel_rfl) (by kernel_rfl) ⟨ah _,ah _,ah _,ah _,ah _,ah _,ah _,ah _,ah _,ah _,ah _,ah _,ah _,ah _,ah _,ah _,ah _,ah _,ah _,ah _,ah _,ah _,trivial⟩
  case hop=>
   constructor
   ·rintro-w21 D21;exact ar (aH (v:=.bool _) rfl) rfl
   constructor
   ·rintro-w22 D22;rintro _ rfl;exact ar (aH (v:=.bool _) rfl) rfl
   constructor
   ·rintro-w23 D23;rintro _ rfl;exact aD rfl (aH (v:=.pointer _) rfl) rfl
   constructor
   ·rintro-w24 D24;rintro _ rfl _ rfl;exact aD rfl (ay rfl) rfl
   constructor
   ·rintro-w25 D25;rintro _ rfl _ rfl;exact aD rfl (aa aN rfl) rfl
   constructor
   ·rintro-w26 D26;rintro _ rfl _ rfl;exact aD rfl (aa aE rfl) rfl
   constructor
   ·rintro-w27 D27;rintro _ rfl _ rfl;exact aD rfl (aa bY rfl) rfl
   constructor
   ·rintro-w28 D28;rintro _ rfl _ rfl;exact aD rfl (aq an rfl (by exact (show _=some (Value.int .i64 s.vote) from (h3.from_ ((ai.rfl_.next D19).next D28)).rd (fun _=>rfl)))) rfl
   constructor
   ·rintro-w29 D29;rintro _ rfl _ rfl;exact aD rfl (cJ (bj rfl rfl) (beq_eq_false_iff_ne.2 hv)) rfl
   constructor
   ·rintro-w30 D30;rintro _ rfl _ rfl;exact aD rfl (aH (v:=.bool _) rfl) rfl
   constructor
   ·rintro-w31 D31;rintro _ rfl;exact aD rfl (aH (v:=.pointer _) rfl) rfl
   constructor
   ·rintro-w32 D32;rintro _ rfl _ rfl;exact aD rfl (ay rfl) rfl
   constructor
   ·rintro-w33 D33;rintro _ rfl _ rfl;exact aD rfl (aa aN rfl) rfl
   constructor
   ·rintro-w34 D34;rintro _ rfl _ rfl;exact aD rfl (aa aE rfl) rfl
   constructor
   ·rintro-w35 D35;rintro _ rfl _ rfl;exact aD rfl (aa bY rfl) rfl
   constructor
   ·rintro-w36 D36;rintro _ rfl _ rfl;exact aD rfl (aq an rfl (by exact (show _=some (Value.int .i64 s.vote) from (h3.from_ ((ai.rfl_.next D19).next D36)).rd (fun _=>rfl)))) rfl
   constructor
   ·rintro-w37 D37;rintro _ rfl;exact aD rfl (aa bA rfl) rfl
   constructor
   ·rintro-w38 D38;rintro _ rfl _ rfl;exact aD rfl (aq an rfl (by exact (show _=some (Value.int .i64 m.f) from (hm3.from_ ((ai.rfl_.next D19).next D38)).rd 1 rfl))) rfl
   constructor
   ·rintro-w39 D39;rintro _ rfl _ rfl _ rfl;exact aD rfl (cQ (bj rfl rfl) (beq_iff_eq.2 hu)) rfl
   constructor
   ·rintro-w40 D40;rintro _ rfl _ rfl _ rfl;exact aD rfl (aw (v:=.bool _) rfl rfl) rfl
   constructor
   ·rintro-w41 D41;rintro _ rfl _ rfl;exact ar (aJ (v:=.bool _) rfl rfl) rfl
   constructor
   ·rintro-w42 D42;rintro _ rfl;exact ar (cy (v:=.bool _) rfl) rfl
   exact trivial
  case hend=>
   intro w43 D43;rintro _ rfl _ rfl _ rfl _ rfl _ rfl _ rfl _ rfl _ rfl _ rfl _ rfl _ rfl _ rfl _ rfl _ rfl _ rfl _ rfl _ rfl _ rfl _ rfl _ rfl _ rfl _ rfl;show St ..;refine aj (af (ak (ak (ag (mvb rfl (aj (af (aL rfl (ag (mvp rfl (mvp rfl (ab (aa bA rfl) (ab (aq an rfl (by exact (show _=some (Value.int .i64 m.f) from (hm3.from_ ((ai.rfl_.next D19).next D43)).rd 1 rfl))) ?_)))))))))))));refine ab (ay rfl) (ab (aa aN rfl) (ab (aa aE rfl) (ab (aa bY rfl) (fH (s':=({ s with vote:=m.f }:Rf)) aS rfl rfl rfl (h3.from_ ((ai.rfl_.next D19).next D43)) (fun _=>⟨by decide,rfl⟩) ⟨rfl,rfl,rfl,rfl,rfl,rfl⟩ ?_))));intro w44 h4;refine ab (ay rfl) (ab (aa aN rfl) (ab (aa aE rfl) (ab (aa c_ rfl) (fH (s':=({ s with vote:=m.f,elapsed:=0 }:Rf)) aS rfl rfl rfl (h4.from_ ai.rfl_) (fun _=>⟨by decide,rfl⟩) ⟨rfl,rfl,rfl,rfl,rfl,rfl⟩ ?_))));intro w45 h5;refine aj (af (ag (mvp rfl (ab (aa bA rfl) (ab (aq an rfl (by exact (show _=some (Value.int .i64 m.f) from ((h5.kept hzb hm9).from_ ai.rfl_).rd 1 rfl))) ?_)))));refine mvb rfl (ab (cp (l:=[(0,.const (.int .i64 2)),(8,.tmp 58)]) (eP _)) (dm (t:=59) (v:=.agg _) (v':=.agg (bM ({ zM with k:=2,ok:=true }:Msg)).toArray) rfl (by rfl) ?_));have h7:=h5.from_ ai.rfl_;obtain ⟨tgA,aA,OA,ocA,LA,hsA⟩:=h7.ex;obtain rfl:=hsA.nilL;refine aB fj (j8 wm Z7 T g ⟨({ s with vote:=m.f,elapsed:=0 }:Rf),[]⟩ _ h7 _ _ _ _ _ hsA (Nat.zero_le _) { zM with k:=2,ok:=true } m.f ⟨c6,Col.none⟩) ?_;rintro v60 w46 ⟨rfl,h6⟩;refine aj (cR (ey rfl ?_));rw [mi hn (.inr hu)];exact ⟨rfl,h.back hE3 (h6.from_ ai.rfl_) hzi⟩
theorem yL (w0:World) (Z:Nat→Prop) (T g:Nat) (s:Rf) (m:Msg) (w:World) (h:a_ w0 Z w T g ⟨s,[]⟩) (hF:RfF s) (hn:gg s.b s.t s.es m.ix m.lt=true) (hv:s.vote≠0) (hu:s.vote≠m.f) :
 Rt prog 101 [.pointer (some ⟨g,0,none⟩),.agg (bM m).toArray] w (fun v w'=>v=.tuple #[]∧a_ w0 Z w' T g (jG s m)):=by
 refine enter (n:=61) Tryz.func101 rfl rfl rfl (ak (ag (bZ (v:=.agg _) rfl ?_)));intro b3 w1 E3 hb3 hk3;obtain ⟨wm,hwm⟩:∃ x,x=w1:=⟨_,rfl⟩
 have h3a:=h.at_ (Z':=fun k=>Z k∨k=b3) E3 (fun k hk=>by
  rcases hk with e | e
  ·exact ⟨Nat.lt_of_lt_of_le (h.zw k e) E3.size,.inl e⟩
  ·subst e;exact ⟨hk3.lt,.inr (by omega)⟩)
 obtain ⟨Z7,hZ7⟩:∃ Z7,Z7=fun k=>Z k∨k=b3:=⟨_,rfl⟩
 have h3:a_ wm Z7 w1 T g ⟨s,[]⟩:=by
  rw [hZ7,hwm];exact h3a
 have hzi:∀ k,Z k→Z7 k:=fun k hk=>by rw [hZ7];exact .inl hk
 have hzb:Z7 b3:=by rw [hZ7];exact .inr rfl
 have hE3:ai w wm:=by rw [hwm];exact E3
 have hm9:Blk wm b3 39 (bM m).toArray:=by rw [hwm];exact hk3
 have hm3:=h3.kept hzb hm9;obtain ⟨tgV,aV,OV,ocV,LV,hsV⟩:=h3.ex;have heV:=(bw.rd hsV.f).e;refine aj (af (ak ?_));apply bK 16 [(8,eqp _),(9,eqp _),(10,eqp _),(11,eqp _),(12,eqp _),(13,eqp (.agg #[.int .i64 s.b,.int .i64 s.t,.slice aV.E s.es.length aV.Ec])),(14,eqp _),(15,eqp (.int .i64 m.ix)),(16,eqp _),(17,eqp (.int .i64 m.lt)),(18,eqp _),(7,eqp _),(19,eqp _),(20,eqp _),(4,eqp _),(5,eqp _)] (by repeat first | exact cj | refine ch ?_ | refine bQ ?_) (by kernel_rfl) (by kernel_rfl) ⟨ah _,ah _,ah _,ah _,ah _,ah _,ah _,ah _,ah _,ah _,ah _,ah _,ah _,ah _,ah _,ah _,trivial⟩
 case hop=>
  constructor
  ·rintro-w3 D3;exact ar (aH (v:=.pointer _) rfl) rfl
  constructor
  ·rintro-w4 D4;rintro _ rfl;exact ar (ay rfl) rfl
  constructor
  ·rintro-w5 D5;rintro _ rfl;exact ar (aa aN rfl) rfl
  constructor
  ·rintro-w6 D6;rintro _ rfl;exact ar (aa aE rfl) rfl
  constructor
  ·rintro-w7 D7;rintro _ rfl;exact ar (aa bq rfl) rfl
  constructor
  ·rintro-w8 D8;rintro _ rfl;exact ar (aG (cs:=[.int .i64 s.b,.int .i64 s.t,.slice aV.E s.es.length aV.Ec]) bB bd rfl (fB (hsV.b.from_ (ai.rfl_.next D8)))) rfl
  constructor
  ·rintro-w9 D9;exact ar (aa bR rfl) rfl
  constructor
  ·rintro-w10 D10;rintro _ rfl;exact ar (aq an rfl (by exact (show _=some (Value.int .i64 m.ix) from (hm3.from_ (ai.rfl_.next D10)).rd 4 rfl))) rfl
  constructor
  ·rintro-w11 D11;exact ar (aa ck rfl) rfl
  constructor
  ·rintro-w12 D12;rintro _ rfl;exact ar (aq an rfl (by exact (show _=some (Value.int .i64 m.lt) from (hm3.from_ (ai.rfl_.next D12)).rd 5 rfl))) rfl
  constructor
  ·rintro-w13 D13;rintro v13_13 rfl v13_15 rfl v13_17 rfl;refine gd jy ((lW s m aV.E aV.Ec _ (heV.from_ (ai.rfl_.next D13)) hF.lg hn).mono ?_);rintro v _ ⟨rfl,E13'⟩;exact ⟨E13',rfl⟩
  constructor
  ·rintro-w14 D14;rintro _ rfl;exact ar (aH (v:=.tuple _) rfl) rfl
  constructor
  ·rintro-w15 D15;rintro _ rfl;exact ar (aY rfl rfl) rfl
  constructor
  ·rintro-w16 D16;rintro _ rfl;exact ar (aY rfl rfl) rfl
  constructor
  ·rintro-w17 D17;rintro _ rfl;exact ar (cy (v:=.bool _) rfl) rfl
  constructor
  ·rintro-w18 D18;rintro _ rfl;exact ar (cy (v:=.int _ _) rfl) rfl
  exact trivial
 case hend=>
  intro w19 D19;rintro _ rfl _ rfl _ rfl _ rfl _ rfl v13 rfl _ rfl v15 rfl _ rfl v17 rfl _ rfl _ rfl _ rfl _ rfl _ rfl _ rfl;show St ..;refine aj (af (ak ?_));apply bK 22 [(21,eqp _),(22,eqp _),(23,eqp _),(24,eqp _),(25,eqp _),(26,eqp _),(27,eqp _),(28,eqp _),(29,eqp _),(30,eqp _),(31,eqp _),(32,eqp _),(33,eqp _),(34,eqp _),(35,eqp _),(36,eqp _),(37,eqp _),(38,eqp _),(39,eqp _),(40,eqp _),(41,eqp _),(6,eqp _)] (by repeat first | exact cj | refine ch ?_ | refine bQ ?_) (by kernel_rfl) (by kernel_rfl) ⟨ah _,ah _,ah _,ah _,ah _,ah _,ah _,ah _,ah _,ah _,ah _,ah _,ah _,ah _,ah _,ah _,ah _,ah _,ah _,ah _,ah _,ah _,trivial⟩
  case hop=>
   constructor
   ·rintro-w21 D21;exact ar (aH (v:=.bool _) rfl) rfl
   constructor
   ·rintro-w22 D22;rintro _ rfl;exact ar (aH (v:=.bool _) rfl) rfl
   constructor
   ·rintro-w23 D23;rintro _ rfl;exact aD rfl (aH (v:=.pointer _) rfl) rfl
   constructor
   ·rintro-w24 D24;rintro _ rfl _ rfl;exact aD rfl (ay rfl) rfl
   constructor
   ·rintro-w25 D25;rintro _ rfl _ rfl;exact aD rfl (aa aN rfl) rfl
   constructor
   ·rintro-w26 D26;rintro _ rfl _ rfl;exact aD rfl (aa aE rfl) rfl
   constructor
   ·rintro-w27 D27;rintro _ rfl _ rfl;exact aD rfl (aa bY rfl) rfl
   constructor
   ·rintro-w28 D28;rintro _ rfl _ rfl;exact aD rfl (aq an rfl (by exact (show _=some (Value.int .i64 s.vote) from (h3.from_ ((ai.rfl_.next D19).next D28)).rd (fun _=>rfl)))) rfl
   constructor
   ·rintro-w29 D29;rintro _ rfl _ rfl;exact aD rfl (cJ (bj rfl rfl) (beq_eq_false_iff_ne.2 hv)) rfl
   constructor
   ·rintro-w30 D30;rintro _ rfl _ rfl;exact aD rfl (aH (v:=.bool _) rfl) rfl
   constructor
   ·rintro-w31 D31;rintro _ rfl;exact aD rfl (aH (v:=.pointer _) rfl) rfl
   constructor
   ·rintro-w32 D32;rintro _ rfl _ rfl;exact aD rfl (ay rfl) rfl
   constructor
   ·rintro-w33 D33;rintro _ rfl _ rfl;exact aD rfl (aa aN rfl) rfl
   constructor
   ·rintro-w34 D34;rintro _ rfl _ rfl;exact aD rfl (aa aE rfl) rfl
   constructor
   ·rintro-w35 D35;rintro _ rfl _ rfl;exact aD rfl (aa bY rfl) rfl
   constructor
   ·rintro-w36 D36;rintro _ rfl _ rfl;exact aD rfl (aq an rfl (by exact (show _=some (Value.int .i64 s.vote) from (h3.from_ ((ai.rfl_.next D19).next D36)).rd (fun _=>rfl)))) rfl
   constructor
   ·rintro-w37 D37;rintro _ rfl;exact aD rfl (aa bA rfl) rfl
   constructor
   ·rintro-w38 D38;rintro _ rfl _ rfl;exact aD rfl (aq an rfl (by exact (show _=some (Value.int .i64 m.f) from (hm3.from_ ((ai.rfl_.next D19).next D38)).rd 1 rfl))) rfl
   constructor
   ·rintro-w39 D39;rintro _ rfl _ rfl _ rfl;exact aD rfl (cJ (bj rfl rfl) (beq_eq_false_iff_ne.2 hu)) rfl
   constructor
   ·rintro-w40 D40;rintro _ rfl _ rfl _ rfl;exact aD rfl (aw (v:=.bool _) rfl rfl) rfl
   constructor
   ·rintro-w41 D41;rintro _ rfl _ rfl;exact ar (aJ (v:=.bool _) rfl rfl) rfl
   constructor
   ·rintro-w42 D42;rintro _ rfl;exact ar (cy (v:=.bool _) rfl) rfl
   exact trivial
  case hend=>
   intro w43 D43;rintro _ rfl _ rfl _ rfl _ rfl _ rfl _ rfl _ rfl _ rfl _ rfl _ rfl _ rfl _ rfl _ rfl _ rfl _ rfl _ rfl _ rfl _ rfl _ rfl _ rfl _ rfl _ rfl;show St ..;refine aj (af (ak (ak (ag (mvb rfl (aj (af (br rfl (aM (af (ag (mvp rfl (ab (aa bA rfl) (ab (aq an rfl (by exact (show _=some (Value.int .i64 m.f) from ((h3.kept hzb hm9).from_ ((ai.rfl_.next D19).next D43)).rd 1 rfl))) ?_))))))))))))));refine mvb rfl (ab (cp (l:=[(0,.const (.int .i64 2)),(8,.tmp 58)]) (eP _)) (dm (t:=59) (v:=.agg _) (v':=.agg (bM ({ zM with k:=2,ok:=false }:Msg)).toArray) rfl (by rfl) ?_));have h7:=h3.from_ ((ai.rfl_.next D19).next D43);obtain ⟨tgA,aA,OA,ocA,LA,hsA⟩:=h7.ex;obtain rfl:=hsA.nilL;refine aB fj (j8 wm Z7 T g ⟨s,[]⟩ _ h7 _ _ _ _ _ hsA (Nat.zero_le _) { zM with k:=2,ok:=false } m.f ⟨c6,Col.none⟩) ?_;rintro v60 w44 ⟨rfl,h6⟩;refine aj (cR (ey rfl ?_));rw [kv (.inr ⟨hv,hu⟩)];exact ⟨rfl,h.back hE3 (h6.from_ ai.rfl_) hzi⟩
theorem tC (w0:World) (Z:Nat→Prop) (T g:Nat) (s:Rf) (m:Msg) (w:World) (h:a_ w0 Z w T g ⟨s,[]⟩) (hF:RfF s):Rt prog 101 [.pointer (some ⟨g,0,none⟩),.agg (bM m).toArray] w fun v w'=>v=.tuple #[]∧a_ w0 Z w' T g (jG s m):=by
 rcases zu s m with hn | ⟨hn,hv⟩ | ⟨hn,hv,hu⟩ | ⟨hn,hv,hu⟩
 ·exact yO w0 Z T g s m w h hF hn
 ·exact yN w0 Z T g s m w h hF hn hv
 ·exact yM w0 Z T g s m w h hF hn hv hu
 ·exact yL w0 Z T g s m w h hF hn hv hu
theorem yP (w0:World) (Z:Nat→Prop) (T g:Nat) (s:Rf) (m:Msg) (w:World) (h:a_ w0 Z w T g ⟨s,[]⟩) (hgt:m.tm<s.term) :
 Rt prog 58 [.pointer (some ⟨g,0,none⟩),.agg (bM m).toArray] w (fun v w'=>v=.tuple #[]∧a_ w0 Z w' T g (cN s m)):=by
 refine enter (n:=55) Tryz.func58 rfl rfl rfl (ak (ag (bZ (v:=.agg _) rfl ?_)));intro b3 w1 E3 hb3 hk3;obtain ⟨wm,hwm⟩:∃ x,x=w1:=⟨_,rfl⟩
 have h3a:=h.at_ (Z':=fun k=>Z k∨k=b3) E3 (fun k hk=>by
  rcases hk with e | e
  ·exact ⟨Nat.lt_of_lt_of_le (h.zw k e) E3.size,.inl e⟩
  ·subst e;exact ⟨hk3.lt,.inr (by omega)⟩)
 obtain ⟨Z7,hZ7⟩:∃ Z7,Z7=fun k=>Z k∨k=b3:=⟨_,rfl⟩
 have h3:a_ wm Z7 w1 T g ⟨s,[]⟩:=by
  rw [hZ7,hwm];exact h3a
 have hzi:∀ k,Z k→Z7 k:=fun k hk=>by rw [hZ7];exact .inl hk
 have hzb:Z7 b3:=by rw [hZ7];exact .inr rfl
 have hE3:ai w wm:=by rw [hwm];exact E3
 have hm9:Blk wm b3 39 (bM m).toArray:=by rw [hwm];exact hk3
 have hm3:=h3.kept hzb hm9;refine aj (af (ak (ak ?_)))
 skip
 apply bK 9 [(4,eqp _),(5,eqp (.int .i64 m.tm)),(6,eqp _),(7,eqp _),(8,eqp _),(9,eqp _),(10,eqp _),(11,eqp (.int .i64 s.term)),(12,eqp _)] (by repeat first | exact cj | refine ch ?_ | refine bQ ?_) (by kernel_rfl) (by kernel_rfl) ⟨ah _,ah _,ah _,ah _,ah _,ah _,ah _,ah _,ah _,trivial⟩
 case hop=>
  constructor
  ·rintro-w3 D3;exact ar (aa bu rfl) rfl
  constructor
  ·rintro-w4 D4;rintro _ rfl;exact ar (aq an rfl (by exact (show _=some (Value.int .i64 m.tm) from (hm3.from_ (ai.rfl_.next D4)).rd 3 rfl))) rfl
  constructor
  ·rintro-w5 D5;exact ar (aH (v:=.pointer _) rfl) rfl
  constructor
  ·rintro-w6 D6;rintro _ rfl;exact ar (ay rfl) rfl
  constructor
  ·rintro-w7 D7;rintro _ rfl;exact ar (aa aN rfl) rfl
  constructor
  ·rintro-w8 D8;rintro _ rfl;exact ar (aa aE rfl) rfl
  constructor
  ·rintro-w9 D9;rintro _ rfl;exact ar (aa bt rfl) rfl
  constructor
  ·rintro-w10 D10;rintro _ rfl;exact ar (aq an rfl (by exact (show _=some (Value.int .i64 s.term) from (h3.from_ (ai.rfl_.next D10)).rd (fun _=>rfl)))) rfl
  constructor
  ·rintro-w11 D11;rintro v11_5 rfl v11_11 rfl;exact ar (cJ (bS rfl rfl) (decide_eq_false (by omega))) rfl
  exact trivial
 case hend=>
  intro w12 D12;rintro _ rfl v5 rfl _ rfl _ rfl _ rfl _ rfl _ rfl v11 rfl _ rfl;show St ..;refine aj (af (br rfl (aM (af (ak (ak ?_))))))
  skip
  apply bK 9 [(19,eqp _),(20,eqp (.int .i64 m.tm)),(21,eqp _),(22,eqp _),(23,eqp _),(24,eqp _),(25,eqp _),(26,eqp (.int .i64 s.term)),(27,eqp _)] (by repeat first | exact cj | refine ch ?_ | refine bQ ?_) (by kernel_rfl) (by kernel_rfl) ⟨ah _,ah _,ah _,ah _,ah _,ah _,ah _,ah _,ah _,trivial⟩
  case hop=>
   constructor
   ·rintro-w14 D14;exact ar (aa bu rfl) rfl
   constructor
   ·rintro-w15 D15;rintro _ rfl;exact ar (aq an rfl (by exact (show _=some (Value.int .i64 m.tm) from ((h3.kept hzb hm9).from_ ((ai.rfl_.next D12).next D15)).rd 3 rfl))) rfl
   constructor
   ·rintro-w16 D16;exact ar (aH (v:=.pointer _) rfl) rfl
   constructor
   ·rintro-w17 D17;rintro _ rfl;exact ar (ay rfl) rfl
   constructor
   ·rintro-w18 D18;rintro _ rfl;exact ar (aa aN rfl) rfl
   constructor
   ·rintro-w19 D19;rintro _ rfl;exact ar (aa aE rfl) rfl
   constructor
   ·rintro-w20 D20;rintro _ rfl;exact ar (aa bt rfl) rfl
   constructor
   ·rintro-w21 D21;rintro _ rfl;exact ar (aq an rfl (by exact (show _=some (Value.int .i64 s.term) from (h3.from_ ((ai.rfl_.next D12).next D21)).rd (fun _=>rfl)))) rfl
   constructor
   ·rintro-w22 D22;rintro v22_20 rfl v22_26 rfl;exact ar (cQ (b_ rfl rfl) (decide_eq_true hgt)) rfl
   exact trivial
  case hend=>
   intro w23 D23;rintro _ rfl v20 rfl _ rfl _ rfl _ rfl _ rfl _ rfl v26 rfl _ rfl;show St ..;refine aj (af (aL rfl (ak (ag (mvp rfl (ab (aG (cs:=bM m) bk aP rfl (((h3.kept hzb hm9).from_ ((ai.rfl_.next D12).next D23)).whole)) (aB rT (uN wm Z7 T g s m _ (h3.from_ ((ai.rfl_.next D12).next D23))) ?_)))))));rintro v30 w24 ⟨rfl,h6⟩;refine aj (af (aC (az (ey rfl ?_))));rw [kx hgt];exact ⟨rfl,h.back hE3 (h6.from_ ai.rfl_) hzi⟩
theorem xH (w0:World) (Z:Nat→Prop) (T g:Nat) (s:Rf) (m:Msg) (w:World) (h:a_ w0 Z w T g ⟨s,[]⟩) (hF:RfF s) (_:m.tm≤1099511627775) (hk:m.k=1) (hgt:s.term=m.tm) :
 Rt prog 58 [.pointer (some ⟨g,0,none⟩),.agg (bM m).toArray] w (fun v w'=>v=.tuple #[]∧a_ w0 Z w' T g (cN s m)):=by
 refine enter (n:=55) Tryz.func58 rfl rfl rfl (ak (ag (bZ (v:=.agg _) rfl ?_)));intro b3 w1 E3 hb3 hk3;obtain ⟨wm,hwm⟩:∃ x,x=w1:=⟨_,rfl⟩
 have h3a:=h.at_ (Z':=fun k=>Z k∨k=b3) E3 (fun k hk=>by
  rcases hk with e | e
  ·exact ⟨Nat.lt_of_lt_of_le (h.zw k e) E3.size,.inl e⟩
  ·subst e;exact ⟨hk3.lt,.inr (by omega)⟩)
 obtain ⟨Z7,hZ7⟩:∃ Z7,Z7=fun k=>Z k∨k=b3:=⟨_,rfl⟩
 have h3:a_ wm Z7 w1 T g ⟨s,[]⟩:=by
  rw [hZ7,hwm];exact h3a
 have hzi:∀ k,Z k→Z7 k:=fun k hk=>by rw [hZ7];exact .inl hk
 have hzb:Z7 b3:=by rw [hZ7];exact .inr rfl
 have hE3:ai w wm:=by rw [hwm];exact E3
 have hm9:Blk wm b3 39 (bM m).toArray:=by rw [hwm];exact hk3
 have hm3:=h3.kept hzb hm9;refine aj (af (ak (ak ?_)))
 skip
 apply bK 9 [(4,eqp _),(5,eqp (.int .i64 m.tm)),(6,eqp _),(7,eqp _),(8,eqp _),(9,eqp _),(10,eqp _),(11,eqp (.int .i64 s.term)),(12,eqp _)] (by repeat first | exact cj | refine ch ?_ | refine bQ ?_) (by kernel_rfl) (by kernel_rfl) ⟨ah _,ah _,ah _,ah _,ah _,ah _,ah _,ah _,ah _,trivial⟩
 case hop=>
  constructor
  ·rintro-w3 D3;exact ar (aa bu rfl) rfl
  constructor
  ·rintro-w4 D4;rintro _ rfl;exact ar (aq an rfl (by exact (show _=some (Value.int .i64 m.tm) from (hm3.from_ (ai.rfl_.next D4)).rd 3 rfl))) rfl
  constructor
  ·rintro-w5 D5;exact ar (aH (v:=.pointer _) rfl) rfl
  constructor
  ·rintro-w6 D6;rintro _ rfl;exact ar (ay rfl) rfl
  constructor
  ·rintro-w7 D7;rintro _ rfl;exact ar (aa aN rfl) rfl
  constructor
  ·rintro-w8 D8;rintro _ rfl;exact ar (aa aE rfl) rfl
  constructor
  ·rintro-w9 D9;rintro _ rfl;exact ar (aa bt rfl) rfl
  constructor
  ·rintro-w10 D10;rintro _ rfl;exact ar (aq an rfl (by exact (show _=some (Value.int .i64 s.term) from (h3.from_ (ai.rfl_.next D10)).rd (fun _=>rfl)))) rfl
  constructor
  ·rintro-w11 D11;rintro v11_5 rfl v11_11 rfl;exact ar (cJ (bS rfl rfl) (decide_eq_false (by omega))) rfl
  exact trivial
 case hend=>
  intro w12 D12;rintro _ rfl v5 rfl _ rfl _ rfl _ rfl _ rfl _ rfl v11 rfl _ rfl;show St ..;refine aj (af (br rfl (aM (af (ak (ak ?_))))))
  skip
  apply bK 9 [(19,eqp _),(20,eqp (.int .i64 m.tm)),(21,eqp _),(22,eqp _),(23,eqp _),(24,eqp _),(25,eqp _),(26,eqp (.int .i64 s.term)),(27,eqp _)] (by repeat first | exact cj | refine ch ?_ | refine bQ ?_) (by kernel_rfl) (by kernel_rfl) ⟨ah _,ah _,ah _,ah _,ah _,ah _,ah _,ah _,ah _,trivial⟩
  case hop=>
   constructor
   ·rintro-w14 D14;exact ar (aa bu rfl) rfl
   constructor
   ·rintro-w15 D15;rintro _ rfl;exact ar (aq an rfl (by exact (show _=some (Value.int .i64 m.tm) from ((h3.kept hzb hm9).from_ ((ai.rfl_.next D12).next D15)).rd 3 rfl))) rfl
   constructor
   ·rintro-w16 D16;exact ar (aH (v:=.pointer _) rfl) rfl
   constructor
   ·rintro-w17 D17;rintro _ rfl;exact ar (ay rfl) rfl
   constructor
   ·rintro-w18 D18;rintro _ rfl;exact ar (aa aN rfl) rfl
   constructor
   ·rintro-w19 D19;rintro _ rfl;exact ar (aa aE rfl) rfl
   constructor
   ·rintro-w20 D20;rintro _ rfl;exact ar (aa bt rfl) rfl
   constructor
   ·rintro-w21 D21;rintro _ rfl;exact ar (aq an rfl (by exact (show _=some (Value.int .i64 s.term) from (h3.from_ ((ai.rfl_.next D12).next D21)).rd (fun _=>rfl)))) rfl
   constructor
   ·rintro-w22 D22;rintro v22_20 rfl v22_26 rfl;exact ar (cJ (b_ rfl rfl) (decide_eq_false (by have:=dq s m.tm;omega))) rfl
   exact trivial
  case hend=>
   intro w23 D23;rintro _ rfl v20 rfl _ rfl _ rfl _ rfl _ rfl _ rfl v26 rfl _ rfl;show St ..;refine aj (af (br rfl (aM (af (ak (ag (ab (aa cw rfl) (ab (aq an rfl (by exact (show _=some (Value.int .i64 m.k) from ((h3.kept hzb hm9).from_ ((ai.rfl_.next D12).next D23)).rd 0 rfl))) ?_))))))));refine aj (af (bg (ak (ag (ab (cQ (bj rfl rfl) (beq_iff_eq.2 hk)) (asb rfl (aj (af (aL rfl (ag (mvp rfl (ab (aG (cs:=bM m) bk aP rfl (((h3.kept hzb hm9).from_ ((ai.rfl_.next D12).next D23)).whole)) (aB nj (tC wm Z7 T g s m _ (h3.from_ ((ai.rfl_.next D12).next D23)) hF) ?_)))))))))))));rintro v37 w24 ⟨rfl,h6⟩;refine aj (bE (cR (ey rfl ?_)));rw [iw (by omega) hk];exact ⟨rfl,h.back hE3 (h6.from_ ai.rfl_) hzi⟩
theorem xG (w0:World) (Z:Nat→Prop) (T g:Nat) (s:Rf) (m:Msg) (w:World) (h:a_ w0 Z w T g ⟨s,[]⟩) (hF:RfF s) (ht:m.tm≤1099511627775) (hk:m.k=1) (hgt:s.term<m.tm) :
 Rt prog 58 [.pointer (some ⟨g,0,none⟩),.agg (bM m).toArray] w (fun v w'=>v=.tuple #[]∧a_ w0 Z w' T g (cN s m)):=by
 have hFf:RfF (bC s m.tm):=hF.falls ht;refine enter (n:=55) Tryz.func58 rfl rfl rfl (ak (ag (bZ (v:=.agg _) rfl ?_)));intro b3 w1 E3 hb3 hk3;obtain ⟨wm,hwm⟩:∃ x,x=w1:=⟨_,rfl⟩
 have h3a:=h.at_ (Z':=fun k=>Z k∨k=b3) E3 (fun k hk=>by
  rcases hk with e | e
  ·exact ⟨Nat.lt_of_lt_of_le (h.zw k e) E3.size,.inl e⟩
  ·subst e;exact ⟨hk3.lt,.inr (by omega)⟩)
 obtain ⟨Z7,hZ7⟩:∃ Z7,Z7=fun k=>Z k∨k=b3:=⟨_,rfl⟩
 have h3:a_ wm Z7 w1 T g ⟨s,[]⟩:=by
  rw [hZ7,hwm];exact h3a
 have hzi:∀ k,Z k→Z7 k:=fun k hk=>by rw [hZ7];exact .inl hk
 have hzb:Z7 b3:=by rw [hZ7];exact .inr rfl
 have hE3:ai w wm:=by rw [hwm];exact E3
 have hm9:Blk wm b3 39 (bM m).toArray:=by rw [hwm];exact hk3
 have hm3:=h3.kept hzb hm9;refine aj (af (ak (ak ?_)))
 skip
 apply bK 9 [(4,eqp _),(5,eqp (.int .i64 m.tm)),(6,eqp _),(7,eqp _),(8,eqp _),(9,eqp _),(10,eqp _),(11,eqp (.int .i64 s.term)),(12,eqp _)] (by repeat first | exact cj | refine ch ?_ | refine bQ ?_) (by kernel_rfl) (by kernel_rfl) ⟨ah _,ah _,ah _,ah _,ah _,ah _,ah _,ah _,ah _,trivial⟩
 case hop=>
  constructor
  ·rintro-w3 D3;exact ar (aa bu rfl) rfl
  constructor
  ·rintro-w4 D4;rintro _ rfl;exact ar (aq an rfl (by exact (show _=some (Value.int .i64 m.tm) from (hm3.from_ (ai.rfl_.next D4)).rd 3 rfl))) rfl
  constructor
  ·rintro-w5 D5;exact ar (aH (v:=.pointer _) rfl) rfl
  constructor
  ·rintro-w6 D6;rintro _ rfl;exact ar (ay rfl) rfl
  constructor
  ·rintro-w7 D7;rintro _ rfl;exact ar (aa aN rfl) rfl
  constructor
  ·rintro-w8 D8;rintro _ rfl;exact ar (aa aE rfl) rfl
  constructor
  ·rintro-w9 D9;rintro _ rfl;exact ar (aa bt rfl) rfl
  constructor
  ·rintro-w10 D10;rintro _ rfl;exact ar (aq an rfl (by exact (show _=some (Value.int .i64 s.term) from (h3.from_ (ai.rfl_.next D10)).rd (fun _=>rfl)))) rfl
  constructor
  ·rintro-w11 D11;rintro v11_5 rfl v11_11 rfl;exact ar (cQ (bS rfl rfl) (decide_eq_true hgt)) rfl
  exact trivial
 case hend=>
  intro w12 D12;rintro _ rfl v5 rfl _ rfl _ rfl _ rfl _ rfl _ rfl v11 rfl _ rfl;show St ..;refine aj (af (aL rfl ?_));apply nK [(0,13,fun _ v _=>v=_),(1,14,fun _ v _=>v=_),(2,15,fun _ v _=>v=_),(3,16,fun _ v _=>v=_),(4,17,fun S v w9=>S 5=false→(eqp (.int .i64 m.tm)) v w9),(5,18,fun _ v _=>v=_)] [5] (fun S w'=>(S 5=false→ai w12 w')∧(S 5=true→a_ wm Z7 w' T g ⟨bC s m.tm,[]⟩)) (by kernel_rfl) (by kernel_rfl) rfl rfl ⟨fun _ _ _ _ _ _ _ h=>h,fun _ _ _ _ _ _ _ h=>h,fun _ _ _ _ _ _ _ h=>h,fun _ _ _ _ _ _ _ h=>h,fun S i v w1 w2 hq hF h h0=>(ah _) v w1 w2 hF (h (o3 h0)),fun _ _ _ _ _ _ _ h=>h,trivial⟩ (fun S i w1 w2 hq hF h=>⟨fun h0=>(h.1 (o3 h0)).next hF,fun h1=>(fun h=>h.from_ hF) (h.2 (o1 (show 5≠i by rintro rfl;exact absurd hq (by decide)) h1))⟩) ⟨fun _=>ai.rfl_.d1,fun h=>by cases h⟩
  case hstep=>
   constructor
   ·rintro S L' w13 hU hmo hme hI hM hC hS ⟨-⟩;have hS0:S 5=false:=(au hC (j:=5) rfl (by kernel_rfl) (au hC (j:=2) rfl (by kernel_rfl) (au hC (j:=1) rfl (by kernel_rfl) hS)));have hM13:=hM.1 hS0;have e0:=hI.1 0 (fM rfl);exact bf [(0,_)] hU hmo hme hI hM (.head _) rfl rfl (by kernel_rfl) ⟨e0,trivial⟩ (aH (v:=.pointer _) rfl) ai.rfl_ (rfl)
   constructor
   ·rintro S L' w14 hU hmo hme hI hM hC hS ⟨d0,-⟩;have hS0:S 5=false:=(au hC (j:=5) rfl (by kernel_rfl) (au hC (j:=2) rfl (by kernel_rfl) hS));have hM14:=hM.1 hS0;obtain ⟨v14_13,e13,h13⟩:=hI.get (i:=0) (.head _) d0;obtain rfl:=h13;exact bf [(13,_)] hU hmo hme hI hM (.tail _ (.head _)) rfl rfl (by kernel_rfl) ⟨e13,trivial⟩ (ay rfl) ai.rfl_ (rfl)
   constructor
   ·rintro S L' w15 hU hmo hme hI hM hC hS ⟨d1,-⟩;have hS0:S 5=false:=(au hC (j:=5) rfl (by kernel_rfl) hS);have hM15:=hM.1 hS0;obtain ⟨v15_14,e14,h14⟩:=hI.get (i:=1) (.tail _ (.head _)) d1;obtain rfl:=h14;exact bf [(14,_)] hU hmo hme hI hM (gM 2 rfl) rfl rfl (by kernel_rfl) ⟨e14,trivial⟩ (aa aN rfl) ai.rfl_ (rfl)
   constructor
   ·rintro S L' w16 hU hmo hme hI hM hC hS ⟨-⟩;have hS0:S 5=false:=(au hC (j:=5) rfl (by kernel_rfl) (au hC (j:=4) rfl (by kernel_rfl) hS));have hM16:=hM.1 hS0;have e3:=hI.1 3 (fM rfl);exact bf [(3,_)] hU hmo hme hI hM (gM 3 rfl) rfl rfl (by kernel_rfl) ⟨e3,trivial⟩ (aa bu rfl) ai.rfl_ (rfl)
   constructor
   ·rintro S L' w17 hU hmo hme hI hM hC hS ⟨d3,-⟩;have hS0:S 5=false:=(au hC (j:=5) rfl (by kernel_rfl) hS);have hM17:=hM.1 hS0;obtain ⟨v17_16,e16,h16⟩:=hI.get (i:=3) (gM 3 rfl) d3;obtain rfl:=h16;exact bf [(16,_)] hU hmo hme hI hM (gM 4 rfl) rfl rfl (by kernel_rfl) ⟨e16,trivial⟩ (aq an rfl (by exact (show _=some (Value.int .i64 m.tm) from (hm3.from_ ((ai.rfl_.next D12).next hM17)).rd 3 rfl))) ai.rfl_ (fun _=>rfl)
   constructor
   ·rintro S L' w18 hU hmo hme hI hM hC hS ⟨d2,d4,-⟩;have hS0:S 5=false:=hS;have hM18:=hM.1 hS0;obtain ⟨v18_15,e15,h15⟩:=hI.get (i:=2) (gM 2 rfl) d2;obtain rfl:=h15;obtain ⟨v18_17,e17,h17⟩:=hI.get (i:=4) (gM 4 rfl) d4;obtain rfl:=h17 hS0;refine jZ (al:=[.tmp 15,.tmp 17]) [(15,_),(17,_)] hU hI (gM 5 rfl) (by kernel_rfl) ⟨e15,e17,trivial⟩ oU ((pQ wm Z7 T g ⟨s,[]⟩ _ (h3.from_ ((ai.rfl_.next D12).next hM18)) m.tm).mono ?_);rintro v9 w2 ⟨rfl,hS2⟩;exact ⟨⟨fun h0=>(by rw [ny] at h0;cases h0),fun _=>hS2⟩,rfl,⟨fun _ _ _ h=>h,fun _ _ _ h=>h,fun _ _ _ h=>h,fun _ _ _ h=>h,fun _ _ _ _ h0=>(by rw [ny] at h0;cases h0),fun _ _ _ h=>h,trivial⟩⟩
   exact trivial
  case hend=>
   intro w19 hM;obtain hS9:=hM.2 rfl;rintro v19_13 rfl v19_14 rfl v19_15 rfl v19_16 rfl v19_17-v19_18 rfl;refine jd (af (ak (ak ?_)))
   skip
   apply bK 9 [(19,eqp _),(20,eqp (.int .i64 m.tm)),(21,eqp _),(22,eqp _),(23,eqp _),(24,eqp _),(25,eqp _),(26,eqp (.int .i64 (bC s m.tm).term)),(27,eqp _)] (by repeat first | exact cj | refine ch ?_ | refine bQ ?_) (by kernel_rfl) (by kernel_rfl) ⟨ah _,ah _,ah _,ah _,ah _,ah _,ah _,ah _,ah _,trivial⟩
   case hop=>
    constructor
    ·rintro-w21 D21;exact ar (aa bu rfl) rfl
    constructor
    ·rintro-w22 D22;rintro _ rfl;exact ar (aq an rfl (by exact (show _=some (Value.int .i64 m.tm) from ((hS9.kept hzb hm9).from_ (ai.rfl_.next D22)).rd 3 rfl))) rfl
    constructor
    ·rintro-w23 D23;exact ar (aH (v:=.pointer _) rfl) rfl
    constructor
    ·rintro-w24 D24;rintro _ rfl;exact ar (ay rfl) rfl
    constructor
    ·rintro-w25 D25;rintro _ rfl;exact ar (aa aN rfl) rfl
    constructor
    ·rintro-w26 D26;rintro _ rfl;exact ar (aa aE rfl) rfl
    constructor
    ·rintro-w27 D27;rintro _ rfl;exact ar (aa bt rfl) rfl
    constructor
    ·rintro-w28 D28;rintro _ rfl;exact ar (aq an rfl (by exact (show _=some (Value.int .i64 (bC s m.tm).term) from (hS9.from_ (ai.rfl_.next D28)).rd (fun _=>rfl)))) rfl
    constructor
    ·rintro-w29 D29;rintro v29_20 rfl v29_26 rfl;exact ar (cJ (b_ rfl rfl) (decide_eq_false (by have:=dq s m.tm;omega))) rfl
    exact trivial
   case hend=>
    intro w30 D30;rintro _ rfl v20 rfl _ rfl _ rfl _ rfl _ rfl _ rfl v26 rfl _ rfl;show St ..;refine aj (af (br rfl (aM (af (ak (ag (ab (aa cw rfl) (ab (aq an rfl (by exact (show _=some (Value.int .i64 m.k) from ((hS9.kept hzb hm9).from_ (ai.rfl_.next D30)).rd 0 rfl))) ?_))))))));refine aj (af (bg (ak (ag (ab (cQ (bj rfl rfl) (beq_iff_eq.2 hk)) (asb rfl (aj (af (aL rfl (ag (mvp rfl (ab (aG (cs:=bM m) bk aP rfl (((hS9.kept hzb hm9).from_ (ai.rfl_.next D30)).whole)) (aB nj (tC wm Z7 T g (bC s m.tm) m _ (hS9.from_ (ai.rfl_.next D30)) hFf) ?_)))))))))))));rintro v37 w31 ⟨rfl,h6⟩;refine aj (bE (cR (ey rfl ?_)));rw [jH hgt,iw (by have:=dq s m.tm;omega) hk];exact ⟨rfl,h.back hE3 (h6.from_ ai.rfl_) hzi⟩
theorem tE (w0:World) (Z:Nat→Prop) (T g:Nat) (s:Rf) (m:Msg) (w:World) (h:a_ w0 Z w T g ⟨s,[]⟩) (hF:RfF s) (ht:m.tm≤1099511627775) (hk:m.k=1):Rt prog 58 [.pointer (some ⟨g,0,none⟩),.agg (bM m).toArray] w fun v w'=>v=.tuple #[]∧a_ w0 Z w' T g (cN s m):=by
 rcases Int.lt_trichotomy m.tm s.term with h1 | h1 | h1
 ·exact yP w0 Z T g s m w h h1
 ·exact xH w0 Z T g s m w h hF ht hk h1.symm
 ·exact xG w0 Z T g s m w h hF ht hk h1
theorem jU:∀ (a0:Int),prog.built 39 [(0,.int .i64 2),(2,.int .i64 a0)]=some #[.int .i64 2,.int .i64 0,.int .i64 a0,.int .i64 0,.int .i64 0,.int .i64 0,.int .i64 0,.int .i64 0,.bool false,.slice none 0 0,.int .i64 0,.string ⟨#[]⟩,.bool false]:=by intros;kernel_rfl
theorem ea:aR prog 71=true:=by kernel_rfl
theorem gr:∀ (a0:Int) (a1:Int),prog.built 39 [(0,.int .i64 4),(2,.int .i64 a0),(7,.int .i64 a1)]=some #[.int .i64 4,.int .i64 0,.int .i64 a0,.int .i64 0,.int .i64 0,.int .i64 0,.int .i64 0,.int .i64 a1,.bool false,.slice none 0 0,.int .i64 0,.string ⟨#[]⟩,.bool false]:=by intros;kernel_rfl
theorem fh:aR prog 125=true:=by kernel_rfl
theorem cG:∀ (a0:Int) (a1:Bool),prog.built 39 [(0,.int .i64 2),(2,.int .i64 a0),(8,.bool a1)]=some #[.int .i64 2,.int .i64 0,.int .i64 a0,.int .i64 0,.int .i64 0,.int .i64 0,.int .i64 0,.int .i64 0,.bool a1,.slice none 0 0,.int .i64 0,.string ⟨#[]⟩,.bool false]:=by intros;kernel_rfl
theorem gJ:aR prog 124=true:=by kernel_rfl
theorem gB (s:Rf) (m:Msg) (A:Option Addr) (c:Nat) (w:World) (h:cF w (.slice A s.es.length c) s.es) {b:Bool} (hb:gg s.b s.t s.es m.ix m.lt=b):Rt prog 125 [.agg #[.int .i64 s.b,.int .i64 s.t,.slice A s.es.length c],.int .i64 m.ix,.int .i64 m.lt] w fun v w'=>v=.bool b∧ai w w':=by
 subst hb;exact rp s.b s.t m.ix m.lt A c s.es w h
theorem xJ (w0:World) (Z:Nat→Prop) (T g:Nat) (s:Rf) (m:Msg) (w:World) (h:a_ w0 Z w T g ⟨s,[]⟩) (hgt:m.tm<s.term) :
 Rt prog 89 [.pointer (some ⟨g,0,none⟩),.agg (bM m).toArray] w (fun v w'=>v=.tuple #[]∧a_ w0 Z w' T g (cN s m)):=by
 refine enter (n:=169) Tryz.func89 rfl rfl rfl (ak (ag (bZ (v:=.agg _) rfl ?_)));intro b3 w1 E3 hb3 hk3;obtain ⟨wm,hwm⟩:∃ x,x=w1:=⟨_,rfl⟩
 have h3a:=h.at_ (Z':=fun k=>Z k∨k=b3) E3 (fun k hk=>by
  rcases hk with e | e
  ·exact ⟨Nat.lt_of_lt_of_le (h.zw k e) E3.size,.inl e⟩
  ·subst e;exact ⟨hk3.lt,.inr (by omega)⟩)
 obtain ⟨Z7,hZ7⟩:∃ Z7,Z7=fun k=>Z k∨k=b3:=⟨_,rfl⟩
 have h3:a_ wm Z7 w1 T g ⟨s,[]⟩:=by
  rw [hZ7,hwm];exact h3a
 have hzi:∀ k,Z k→Z7 k:=fun k hk=>by rw [hZ7];exact .inl hk
 have hzb:Z7 b3:=by rw [hZ7];exact .inr rfl
 have hE3:ai w wm:=by rw [hwm];exact E3
 have hm9:Blk wm b3 39 (bM m).toArray:=by rw [hwm];exact hk3
 have hm3:=h3.kept hzb hm9;refine aj (af (ak (ak ?_)))
 skip
 apply bK 8 [(5,eqp _),(6,eqp (.int .i64 m.tm)),(7,eqp _),(8,eqp _),(9,eqp _),(10,eqp _),(11,eqp (.int .i64 s.term)),(12,eqp _)] (by repeat first | exact cj | refine ch ?_ | refine bQ ?_) (by kernel_rfl) (by kernel_rfl) ⟨ah _,ah _,ah _,ah _,ah _,ah _,ah _,ah _,trivial⟩
 case hop=>
  constructor
  ·rintro-w3 D3;exact ar (aa bu rfl) rfl
  constructor
  ·rintro-w4 D4;rintro _ rfl;exact ar (aq an rfl (by exact (show _=some (Value.int .i64 m.tm) from (hm3.from_ (ai.rfl_.next D4)).rd 3 rfl))) rfl
  constructor
  ·rintro-w5 D5;exact ar (aH (v:=.pointer _) rfl) rfl
  constructor
  ·rintro-w6 D6;rintro _ rfl;exact ar (ay rfl) rfl
  constructor
  ·rintro-w7 D7;rintro _ rfl;exact ar (aa aO rfl) rfl
  constructor
  ·rintro-w8 D8;rintro _ rfl;exact ar (aa bt rfl) rfl
  constructor
  ·rintro-w9 D9;rintro _ rfl;exact ar (aq an rfl (by exact (show _=some (Value.int .i64 s.term) from (h3.from_ (ai.rfl_.next D9)).rd (fun _=>rfl)))) rfl
  constructor
  ·rintro-w10 D10;rintro v10_6 rfl v10_11 rfl;exact ar (cJ (bS rfl rfl) (decide_eq_false (by omega))) rfl
  exact trivial
 case hend=>
  intro w11 D11;rintro _ rfl v6 rfl _ rfl _ rfl _ rfl _ rfl v11 rfl _ rfl;show St ..;refine aj (af (br rfl (aM (af (ak (ak ?_))))))
  skip
  apply bK 8 [(17,eqp _),(18,eqp (.int .i64 m.tm)),(19,eqp _),(20,eqp _),(21,eqp _),(22,eqp _),(23,eqp (.int .i64 s.term)),(24,eqp _)] (by repeat first | exact cj | refine ch ?_ | refine bQ ?_) (by kernel_rfl) (by kernel_rfl) ⟨ah _,ah _,ah _,ah _,ah _,ah _,ah _,ah _,trivial⟩
  case hop=>
   constructor
   ·rintro-w13 D13;exact ar (aa bu rfl) rfl
   constructor
   ·rintro-w14 D14;rintro _ rfl;exact ar (aq an rfl (by exact (show _=some (Value.int .i64 m.tm) from ((h3.kept hzb hm9).from_ ((ai.rfl_.next D11).next D14)).rd 3 rfl))) rfl
   constructor
   ·rintro-w15 D15;exact ar (aH (v:=.pointer _) rfl) rfl
   constructor
   ·rintro-w16 D16;rintro _ rfl;exact ar (ay rfl) rfl
   constructor
   ·rintro-w17 D17;rintro _ rfl;exact ar (aa aO rfl) rfl
   constructor
   ·rintro-w18 D18;rintro _ rfl;exact ar (aa bt rfl) rfl
   constructor
   ·rintro-w19 D19;rintro _ rfl;exact ar (aq an rfl (by exact (show _=some (Value.int .i64 s.term) from (h3.from_ ((ai.rfl_.next D11).next D19)).rd (fun _=>rfl)))) rfl
   constructor
   ·rintro-w20 D20;rintro v20_18 rfl v20_23 rfl;exact ar (cQ (b_ rfl rfl) (decide_eq_true hgt)) rfl
   exact trivial
  case hend=>
   intro w21 D21;rintro _ rfl v18 rfl _ rfl _ rfl _ rfl _ rfl v23 rfl _ rfl;show St ..;refine aj (af (aL rfl (ak (ak (ag (ab (aa cw rfl) (ab (aq an rfl (by exact (show _=some (Value.int .i64 m.k) from ((h3.kept hzb hm9).from_ ((ai.rfl_.next D11).next D21)).rd 0 rfl))) ?_)))))));refine aj (af (bg (ak (ag (ab (bj rfl rfl) (asb rfl (aj (af (Aa rfl (fun Q22=>?_) (fun Q22=>?_))))))))))
   ·refine ag (mvp rfl (ab (aa bA rfl) (ab (aq an rfl (by exact (show _=some (Value.int .i64 m.f) from ((h3.kept hzb hm9).from_ ((ai.rfl_.next D11).next D21)).rd 1 rfl))) ?_)));refine ab (cp (l:=[(0,.const (.int .i64 2)),(2,.tmp 31)]) (jU _)) (dm (t:=32) (v:=.agg _) (v':=.agg (bM ({ zM with k:=2,t:=m.f }:Msg)).toArray) rfl (by rfl) ?_);have h7:=h3.from_ ((ai.rfl_.next D11).next D21);obtain ⟨tgA,aA,OA,ocA,LA,hsA⟩:=h7.ex;obtain rfl:=hsA.nilL;refine aB ea (fu wm Z7 T g ⟨s,[]⟩ _ h7 _ _ _ _ _ hsA (Nat.zero_le _) ({ zM with k:=2,t:=m.f }:Msg) ⟨c6,Col.none⟩) ?_;rintro v33 w23 ⟨rfl,h6⟩;refine aj (bE (af (aC (az (ey rfl ?_)))));rw [kx hgt];unfold ga
    first
     |(rw [if_pos (show m.k=1 by omega)];exact ⟨rfl,h.back hE3 (h6.from_ ai.rfl_) hzi⟩)
     |(rw [if_neg (show ¬ m.k=1 by omega),if_pos (show m.k=3∨m.k=5 by omega)];exact ⟨rfl,h.back hE3 (h6.from_ ai.rfl_) hzi⟩)
     |(rw [if_neg (show ¬ m.k=1 by omega),if_neg (show ¬ (m.k=3∨m.k=5) by omega)];exact ⟨rfl,h.back hE3 (h3.from_ ai.rfl_) hzi⟩)
   refine ak (ak (ag (ab (bj rfl rfl) (asb rfl (aj (af (Aa rfl (fun Q24=>?_) (fun Q24=>?_))))))))
   ·refine aM (af (Aa rfl (fun Q25=>?_) (fun Q25=>?_)));rotate_left
    ·exfalso;omega
    refine ag (mvp rfl (ab (aa bA rfl) (ab (aq an rfl (by exact (show _=some (Value.int .i64 m.f) from ((h3.kept hzb hm9).from_ ((ai.rfl_.next D11).next D21)).rd 1 rfl))) ?_)));refine ab (aa dg rfl) (ab (aq an rfl (by exact (show _=some (Value.int .i64 m.rd) from ((h3.kept hzb hm9).from_ ((ai.rfl_.next D11).next D21)).rd 7 rfl))) ?_);refine ab (cp (l:=[(0,.const (.int .i64 4)),(2,.tmp 39),(7,.tmp 41)]) (gr _ _)) (dm (t:=42) (v:=.agg _) (v':=.agg (bM ({ zM with k:=4,t:=m.f,rd:=m.rd }:Msg)).toArray) rfl (by rfl) ?_);have h7:=h3.from_ ((ai.rfl_.next D11).next D21);obtain ⟨tgA,aA,OA,ocA,LA,hsA⟩:=h7.ex;obtain rfl:=hsA.nilL;refine aB ea (fu wm Z7 T g ⟨s,[]⟩ _ h7 _ _ _ _ _ hsA (Nat.zero_le _) ({ zM with k:=4,t:=m.f,rd:=m.rd }:Msg) ⟨c6,Col.none⟩) ?_;rintro v43 w26 ⟨rfl,h6⟩;refine aj (bE (af (aC (az (ey rfl ?_)))));rw [kx hgt];unfold ga
    first
     |(rw [if_pos (show m.k=1 by omega)];exact ⟨rfl,h.back hE3 (h6.from_ ai.rfl_) hzi⟩)
     |(rw [if_neg (show ¬ m.k=1 by omega),if_pos (show m.k=3∨m.k=5 by omega)];exact ⟨rfl,h.back hE3 (h6.from_ ai.rfl_) hzi⟩)
     |(rw [if_neg (show ¬ m.k=1 by omega),if_neg (show ¬ (m.k=3∨m.k=5) by omega)];exact ⟨rfl,h.back hE3 (h3.from_ ai.rfl_) hzi⟩)
   refine ag (ab (bj rfl rfl) (asb rfl (aj (af (Aa rfl (fun Q27=>?_) (fun Q27=>?_))))))
   ·refine ag (mvp rfl (ab (aa bA rfl) (ab (aq an rfl (by exact (show _=some (Value.int .i64 m.f) from ((h3.kept hzb hm9).from_ ((ai.rfl_.next D11).next D21)).rd 1 rfl))) ?_)));refine ab (aa dg rfl) (ab (aq an rfl (by exact (show _=some (Value.int .i64 m.rd) from ((h3.kept hzb hm9).from_ ((ai.rfl_.next D11).next D21)).rd 7 rfl))) ?_);refine ab (cp (l:=[(0,.const (.int .i64 4)),(2,.tmp 39),(7,.tmp 41)]) (gr _ _)) (dm (t:=42) (v:=.agg _) (v':=.agg (bM ({ zM with k:=4,t:=m.f,rd:=m.rd }:Msg)).toArray) rfl (by rfl) ?_);have h7:=h3.from_ ((ai.rfl_.next D11).next D21);obtain ⟨tgA,aA,OA,ocA,LA,hsA⟩:=h7.ex;obtain rfl:=hsA.nilL;refine aB ea (fu wm Z7 T g ⟨s,[]⟩ _ h7 _ _ _ _ _ hsA (Nat.zero_le _) ({ zM with k:=4,t:=m.f,rd:=m.rd }:Msg) ⟨c6,Col.none⟩) ?_;rintro v43 w28 ⟨rfl,h6⟩;refine aj (bE (af (aC (az (ey rfl ?_)))));rw [kx hgt];unfold ga
    first
     |(rw [if_pos (show m.k=1 by omega)];exact ⟨rfl,h.back hE3 (h6.from_ ai.rfl_) hzi⟩)
     |(rw [if_neg (show ¬ m.k=1 by omega),if_pos (show m.k=3∨m.k=5 by omega)];exact ⟨rfl,h.back hE3 (h6.from_ ai.rfl_) hzi⟩)
     |(rw [if_neg (show ¬ m.k=1 by omega),if_neg (show ¬ (m.k=3∨m.k=5) by omega)];exact ⟨rfl,h.back hE3 (h3.from_ ai.rfl_) hzi⟩)
   refine aM (bE (af (aC (az (ey rfl ?_)))));rw [kx hgt];unfold ga
   first
    |(rw [if_pos (show m.k=1 by omega)];exact ⟨rfl,h.back hE3 (h6.from_ ((ai.rfl_.next D11).next D21)) hzi⟩)
    |(rw [if_neg (show ¬ m.k=1 by omega),if_pos (show m.k=3∨m.k=5 by omega)];exact ⟨rfl,h.back hE3 (h6.from_ ((ai.rfl_.next D11).next D21)) hzi⟩)
    |(rw [if_neg (show ¬ m.k=1 by omega),if_neg (show ¬ (m.k=3∨m.k=5) by omega)];exact ⟨rfl,h.back hE3 (h3.from_ ((ai.rfl_.next D11).next D21)) hzi⟩)
theorem uG (w0:World) (Z:Nat→Prop) (T g:Nat) (s:Rf) (m:Msg) (w:World) (h:a_ w0 Z w T g ⟨s,[]⟩) (_:RfF s) (_:m.tm≤1099511627775) (hk:m.k=1) (hgt:s.term=m.tm) (hn:gg s.b s.t s.es m.ix m.lt=true) (hv:s.vote=0) :
 Rt prog 89 [.pointer (some ⟨g,0,none⟩),.agg (bM m).toArray] w (fun v w'=>v=.tuple #[]∧a_ w0 Z w' T g (cN s m)):=by
 refine enter (n:=169) Tryz.func89 rfl rfl rfl (ak (ag (bZ (v:=.agg _) rfl ?_)));intro b3 w1 E3 hb3 hk3;obtain ⟨wm,hwm⟩:∃ x,x=w1:=⟨_,rfl⟩
 have h3a:=h.at_ (Z':=fun k=>Z k∨k=b3) E3 (fun k hk=>by
  rcases hk with e | e
  ·exact ⟨Nat.lt_of_lt_of_le (h.zw k e) E3.size,.inl e⟩
  ·subst e;exact ⟨hk3.lt,.inr (by omega)⟩)
 obtain ⟨Z7,hZ7⟩:∃ Z7,Z7=fun k=>Z k∨k=b3:=⟨_,rfl⟩
 have h3:a_ wm Z7 w1 T g ⟨s,[]⟩:=by
  rw [hZ7,hwm];exact h3a
 have hzi:∀ k,Z k→Z7 k:=fun k hk=>by rw [hZ7];exact .inl hk
 have hzb:Z7 b3:=by rw [hZ7];exact .inr rfl
 have hE3:ai w wm:=by rw [hwm];exact E3
 have hm9:Blk wm b3 39 (bM m).toArray:=by rw [hwm];exact hk3
 have hm3:=h3.kept hzb hm9;have hc3:=h3;obtain ⟨tgV,aV,OV,ocV,LV,hsV⟩:=hc3.ex;have heV:=(bw.rd hsV.f).e;refine aj (af (ak (ak ?_)))
 skip
 apply bK 8 [(5,eqp _),(6,eqp (.int .i64 m.tm)),(7,eqp _),(8,eqp _),(9,eqp _),(10,eqp _),(11,eqp (.int .i64 s.term)),(12,eqp _)] (by repeat first | exact cj | refine ch ?_ | refine bQ ?_) (by kernel_rfl) (by kernel_rfl) ⟨ah _,ah _,ah _,ah _,ah _,ah _,ah _,ah _,trivial⟩
 case hop=>
  constructor
  ·rintro-w3 D3;exact ar (aa bu rfl) rfl
  constructor
  ·rintro-w4 D4;rintro _ rfl;exact ar (aq an rfl (by exact (show _=some (Value.int .i64 m.tm) from (hm3.from_ (ai.rfl_.next D4)).rd 3 rfl))) rfl
  constructor
  ·rintro-w5 D5;exact ar (aH (v:=.pointer _) rfl) rfl
  constructor
  ·rintro-w6 D6;rintro _ rfl;exact ar (ay rfl) rfl
  constructor
  ·rintro-w7 D7;rintro _ rfl;exact ar (aa aO rfl) rfl
  constructor
  ·rintro-w8 D8;rintro _ rfl;exact ar (aa bt rfl) rfl
  constructor
  ·rintro-w9 D9;rintro _ rfl;exact ar (aq an rfl (by exact (show _=some (Value.int .i64 s.term) from (h3.from_ (ai.rfl_.next D9)).rd (fun _=>rfl)))) rfl
  constructor
  ·rintro-w10 D10;rintro v10_6 rfl v10_11 rfl;exact ar (cJ (bS rfl rfl) (decide_eq_false (by omega))) rfl
  exact trivial
 case hend=>
  intro w11 D11;rintro _ rfl v6 rfl _ rfl _ rfl _ rfl _ rfl v11 rfl _ rfl;show St ..;refine aj (af (br rfl (aM (af (ak (ak ?_))))))
  skip
  apply bK 8 [(17,eqp _),(18,eqp (.int .i64 m.tm)),(19,eqp _),(20,eqp _),(21,eqp _),(22,eqp _),(23,eqp (.int .i64 s.term)),(24,eqp _)] (by repeat first | exact cj | refine ch ?_ | refine bQ ?_) (by kernel_rfl) (by kernel_rfl) ⟨ah _,ah _,ah _,ah _,ah _,ah _,ah _,ah _,trivial⟩
  case hop=>
   constructor
   ·rintro-w13 D13;exact ar (aa bu rfl) rfl
   constructor
   ·rintro-w14 D14;rintro _ rfl;exact ar (aq an rfl (by exact (show _=some (Value.int .i64 m.tm) from ((h3.kept hzb hm9).from_ ((ai.rfl_.next D11).next D14)).rd 3 rfl))) rfl
   constructor
   ·rintro-w15 D15;exact ar (aH (v:=.pointer _) rfl) rfl
   constructor
   ·rintro-w16 D16;rintro _ rfl;exact ar (ay rfl) rfl
   constructor
   ·rintro-w17 D17;rintro _ rfl;exact ar (aa aO rfl) rfl
   constructor
   ·rintro-w18 D18;rintro _ rfl;exact ar (aa bt rfl) rfl
   constructor
   ·rintro-w19 D19;rintro _ rfl;exact ar (aq an rfl (by exact (show _=some (Value.int .i64 s.term) from (h3.from_ ((ai.rfl_.next D11).next D19)).rd (fun _=>rfl)))) rfl
   constructor
   ·rintro-w20 D20;rintro v20_18 rfl v20_23 rfl;exact ar (cJ (b_ rfl rfl) (decide_eq_false (by have:=dq s m.tm;omega))) rfl
   exact trivial
  case hend=>
   intro w21 D21;rintro _ rfl v18 rfl _ rfl _ rfl _ rfl _ rfl v23 rfl _ rfl;show St ..;refine aj (af (br rfl (aM (af (ak (ag (ab (aa cw rfl) (ab (aq an rfl (by exact (show _=some (Value.int .i64 m.k) from ((h3.kept hzb hm9).from_ ((ai.rfl_.next D11).next D21)).rd 0 rfl))) ?_))))))));refine aj (af (bg (ak (ag (ab (cQ (bj rfl rfl) (beq_iff_eq.2 hk)) (asb rfl (aj (af (aL rfl (ak ?_))))))))));apply bK 29 [(57,eqp _),(58,eqp _),(59,eqp _),(60,eqp _),(61,eqp (.int .i64 s.vote)),(62,eqp _),(63,eqp _),(64,eqp _),(65,eqp _),(66,eqp _),(67,eqp _),(68,eqp _),(69,eqp _),(70,eqp _),(71,eqp _),(72,eqp _),(73,eqp _),(74,eqp _),(75,eqp _),(76,eqp _),(77,eqp _),(78,eqp _),(79,eqp _),(80,eqp _),(81,eqp _),(82,eqp _),(83,eqp _),(84,eqp _),(4,eqp _)] (by repeat first | exact cj | refine ch ?_ | refine bQ ?_) (by kernel_rfl) (by kernel_rfl) ⟨ah _,ah _,ah _,ah _,ah _,ah _,ah _,ah _,ah _,ah _,ah _,ah _,ah _,ah _,ah _,ah _,ah _,ah _,ah _,ah _,ah _,ah _,ah _,ah _,ah _,ah _,ah _,ah _,ah _,trivial⟩
   case hop=>
    constructor
    ·rintro-w23 D23;exact ar (aH (v:=.pointer _) rfl) rfl
    constructor
    ·rintro-w24 D24;rintro _ rfl;exact ar (ay rfl) rfl
    constructor
    ·rintro-w25 D25;rintro _ rfl;exact ar (aa aO rfl) rfl
    constructor
    ·rintro-w26 D26;rintro _ rfl;exact ar (aa bY rfl) rfl
    constructor
    ·rintro-w27 D27;rintro _ rfl;exact ar (aq an rfl (by exact (show _=some (Value.int .i64 s.vote) from (hc3.from_ (((ai.rfl_.next D11).next D21).next D27)).rd (fun _=>rfl)))) rfl
    constructor
    ·rintro-w28 D28;rintro v28_61 rfl;exact ar (cQ (bj rfl rfl) (beq_iff_eq.2 hv)) rfl
    constructor
    ·rintro-w29 D29;rintro _ rfl;exact ar (aH (v:=.bool _) rfl) rfl
    constructor
    ·rintro-w30 D30;rintro _ rfl;exact bJ rfl rfl rfl
    constructor
    ·rintro-w31 D31;rintro _ rfl _ rfl;exact bJ rfl rfl rfl
    constructor
    ·rintro-w32 D32;rintro _ rfl _ rfl;exact bJ rfl rfl rfl
    constructor
    ·rintro-w33 D33;rintro _ rfl _ rfl;exact bJ rfl rfl rfl
    constructor
    ·rintro-w34 D34;rintro _ rfl _ rfl;exact bJ rfl rfl rfl
    constructor
    ·rintro-w35 D35;rintro _ rfl;exact bJ rfl rfl rfl
    constructor
    ·rintro-w36 D36;rintro _ rfl _ rfl;exact bJ rfl rfl rfl
    constructor
    ·rintro-w37 D37;rintro _ rfl _ rfl _ rfl;exact bJ rfl rfl rfl
    constructor
    ·rintro-w38 D38;rintro _ rfl _ rfl;exact ar (aJ (v:=.bool _) rfl rfl) rfl
    constructor
    ·rintro-w39 D39;rintro _ rfl;exact ar (aH (v:=.bool _) rfl) rfl
    constructor
    ·rintro-w40 D40;rintro _ rfl;exact aD rfl (aH (v:=.pointer _) rfl) rfl
    constructor
    ·rintro-w41 D41;rintro _ rfl _ rfl;exact aD rfl (ay rfl) rfl
    constructor
    ·rintro-w42 D42;rintro _ rfl _ rfl;exact aD rfl (aa aO rfl) rfl
    constructor
    ·rintro-w43 D43;rintro _ rfl _ rfl;exact aD rfl (aa bq rfl) rfl
    constructor
    ·rintro-w44 D44;rintro _ rfl _ rfl;exact aD rfl (aG (cs:=[.int .i64 s.b,.int .i64 s.t,.slice aV.E s.es.length aV.Ec]) bB bd rfl (fB (hsV.b.from_ (((ai.rfl_.next D11).next D21).next D44)))) rfl
    constructor
    ·rintro-w45 D45;rintro _ rfl;exact aD rfl (aa bR rfl) rfl
    constructor
    ·rintro-w46 D46;rintro _ rfl _ rfl;exact aD rfl (aq an rfl (by exact (show _=some (Value.int .i64 m.ix) from ((hc3.kept hzb hm9).from_ (((ai.rfl_.next D11).next D21).next D46)).rd 4 rfl))) rfl
    constructor
    ·rintro-w47 D47;rintro _ rfl;exact aD rfl (aa ck rfl) rfl
    constructor
    ·rintro-w48 D48;rintro _ rfl _ rfl;exact aD rfl (aq an rfl (by exact (show _=some (Value.int .i64 m.lt) from ((hc3.kept hzb hm9).from_ (((ai.rfl_.next D11).next D21).next D48)).rd 5 rfl))) rfl
    constructor
    ·rintro-w49 D49;rintro _ rfl _ rfl _ rfl _ rfl;refine gx rfl fh ((gB s m aV.E aV.Ec _ (heV.from_ (((ai.rfl_.next D11).next D21).next D49)) hn).mono ?_);rintro v _ ⟨rfl,E49'⟩;exact ⟨E49',rfl⟩
    constructor
    ·rintro-w50 D50;rintro _ rfl _ rfl;exact ar (aJ (v:=.bool _) rfl rfl) rfl
    constructor
    ·rintro-w51 D51;rintro _ rfl;exact ar (cy (v:=.bool _) rfl) rfl
    exact trivial
   case hend=>
    intro w52 D52;rintro _ rfl _ rfl _ rfl _ rfl v61 rfl _ rfl _ rfl _ rfl _ rfl _ rfl _ rfl _ rfl _ rfl _ rfl _ rfl _ rfl _ rfl _ rfl _ rfl _ rfl _ rfl _ rfl _ rfl _ rfl _ rfl _ rfl _ rfl _ rfl _ rfl;show St ..;refine aj (af (ak (ak (ag (mvb rfl (aj (af (aL rfl (ak (ag (mvp rfl (ab (aa bA rfl) (ab (aq an rfl (by exact (show _=some (Value.int .i64 m.f) from ((hc3.kept hzb hm9).from_ (((ai.rfl_.next D11).next D21).next D52)).rd 1 rfl))) ?_)))))))))))));refine ab (ay rfl) (ab (aa aO rfl) (ab (aa bY rfl) (fH (s':=({ s with vote:=m.f }:Rf)) aS rfl rfl rfl (hc3.from_ (((ai.rfl_.next D11).next D21).next D52)) (fun _=>⟨by decide,rfl⟩) ⟨rfl,rfl,rfl,rfl,rfl,rfl⟩ ?_)));intro w53 h9a;refine aj (af (ag (mvp rfl (ab (ay rfl) (ab (aa aO rfl) (ab (aa c_ rfl) (fH (s':=({ s with vote:=m.f,elapsed:=0 }:Rf)) aS rfl rfl rfl (h9a.from_ ai.rfl_) (fun _=>⟨by decide,rfl⟩) ⟨rfl,rfl,rfl,rfl,rfl,rfl⟩ ?_)))))));intro w54 h9b;refine aj (af (ag (mvp rfl (ab (aa bA rfl) (ab (aq an rfl (by exact (show _=some (Value.int .i64 m.f) from ((h9b.kept hzb hm9).from_ ai.rfl_).rd 1 rfl))) ?_)))));refine mvb rfl (ab (cp (l:=[(0,.const (.int .i64 2)),(2,.tmp 98),(8,.tmp 99)]) (cG _ _)) (dm (t:=100) (v:=.agg _) (v':=.agg (bM ({ zM with k:=2,t:=m.f,ok:=true }:Msg)).toArray) rfl (by rfl) ?_));have h7:=h9b.from_ ai.rfl_;obtain ⟨tgA,aA,OA,ocA,LA,hsA⟩:=h7.ex;obtain rfl:=hsA.nilL;refine aB ea (fu wm Z7 T g ⟨({ s with vote:=m.f,elapsed:=0 }:Rf),[]⟩ _ h7 _ _ _ _ _ hsA (Nat.zero_le _) ({ zM with k:=2,t:=m.f,ok:=true }:Msg) ⟨c6,Col.none⟩) ?_;rintro v101 w55 ⟨rfl,h6⟩;refine aj (bE (cR (ey rfl ?_)));rw [iw (by omega) hk,mi hn (.inl hv)];exact ⟨rfl,h.back hE3 (h6.from_ ai.rfl_) hzi⟩
theorem uF (w0:World) (Z:Nat→Prop) (T g:Nat) (s:Rf) (m:Msg) (w:World) (h:a_ w0 Z w T g ⟨s,[]⟩) (_:RfF s) (_:m.tm≤1099511627775) (hk:m.k=1) (hgt:s.term=m.tm) (hn:gg s.b s.t s.es m.ix m.lt=false) (hv:s.vote=0) :
 Rt prog 89 [.pointer (some ⟨g,0,none⟩),.agg (bM m).toArray] w (fun v w'=>v=.tuple #[]∧a_ w0 Z w' T g (cN s m)):=by
 refine enter (n:=169) Tryz.func89 rfl rfl rfl (ak (ag (bZ (v:=.agg _) rfl ?_)));intro b3 w1 E3 hb3 hk3;obtain ⟨wm,hwm⟩:∃ x,x=w1:=⟨_,rfl⟩
 have h3a:=h.at_ (Z':=fun k=>Z k∨k=b3) E3 (fun k hk=>by
  rcases hk with e | e
  ·exact ⟨Nat.lt_of_lt_of_le (h.zw k e) E3.size,.inl e⟩
  ·subst e;exact ⟨hk3.lt,.inr (by omega)⟩)
 obtain ⟨Z7,hZ7⟩:∃ Z7,Z7=fun k=>Z k∨k=b3:=⟨_,rfl⟩
 have h3:a_ wm Z7 w1 T g ⟨s,[]⟩:=by
  rw [hZ7,hwm];exact h3a
 have hzi:∀ k,Z k→Z7 k:=fun k hk=>by rw [hZ7];exact .inl hk
 have hzb:Z7 b3:=by rw [hZ7];exact .inr rfl
 have hE3:ai w wm:=by rw [hwm];exact E3
 have hm9:Blk wm b3 39 (bM m).toArray:=by rw [hwm];exact hk3
 have hm3:=h3.kept hzb hm9;have hc3:=h3;obtain ⟨tgV,aV,OV,ocV,LV,hsV⟩:=hc3.ex;have heV:=(bw.rd hsV.f).e;refine aj (af (ak (ak ?_)))
 skip
 apply bK 8 [(5,eqp _),(6,eqp (.int .i64 m.tm)),(7,eqp _),(8,eqp _),(9,eqp _),(10,eqp _),(11,eqp (.int .i64 s.term)),(12,eqp _)] (by repeat first | exact cj | refine ch ?_ | refine bQ ?_) (by kernel_rfl) (by kernel_rfl) ⟨ah _,ah _,ah _,ah _,ah _,ah _,ah _,ah _,trivial⟩
 case hop=>
  constructor
  ·rintro-w3 D3;exact ar (aa bu rfl) rfl
  constructor
  ·rintro-w4 D4;rintro _ rfl;exact ar (aq an rfl (by exact (show _=some (Value.int .i64 m.tm) from (hm3.from_ (ai.rfl_.next D4)).rd 3 rfl))) rfl
  constructor
  ·rintro-w5 D5;exact ar (aH (v:=.pointer _) rfl) rfl
  constructor
  ·rintro-w6 D6;rintro _ rfl;exact ar (ay rfl) rfl
  constructor
  ·rintro-w7 D7;rintro _ rfl;exact ar (aa aO rfl) rfl
  constructor
  ·rintro-w8 D8;rintro _ rfl;exact ar (aa bt rfl) rfl
  constructor
  ·rintro-w9 D9;rintro _ rfl;exact ar (aq an rfl (by exact (show _=some (Value.int .i64 s.term) from (h3.from_ (ai.rfl_.next D9)).rd (fun _=>rfl)))) rfl
  constructor
  ·rintro-w10 D10;rintro v10_6 rfl v10_11 rfl;exact ar (cJ (bS rfl rfl) (decide_eq_false (by omega))) rfl
  exact trivial
 case hend=>
  intro w11 D11;rintro _ rfl v6 rfl _ rfl _ rfl _ rfl _ rfl v11 rfl _ rfl;show St ..;refine aj (af (br rfl (aM (af (ak (ak ?_))))))
  skip
  apply bK 8 [(17,eqp _),(18,eqp (.int .i64 m.tm)),(19,eqp _),(20,eqp _),(21,eqp _),(22,eqp _),(23,eqp (.int .i64 s.term)),(24,eqp _)] (by repeat first | exact cj | refine ch ?_ | refine bQ ?_) (by kernel_rfl) (by kernel_rfl) ⟨ah _,ah _,ah _,ah _,ah _,ah _,ah _,ah _,trivial⟩
  case hop=>
   constructor
   ·rintro-w13 D13;exact ar (aa bu rfl) rfl
   constructor
   ·rintro-w14 D14;rintro _ rfl;exact ar (aq an rfl (by exact (show _=some (Value.int .i64 m.tm) from ((h3.kept hzb hm9).from_ ((ai.rfl_.next D11).next D14)).rd 3 rfl))) rfl
   constructor
   ·rintro-w15 D15;exact ar (aH (v:=.pointer _) rfl) rfl
   constructor
   ·rintro-w16 D16;rintro _ rfl;exact ar (ay rfl) rfl
   constructor
   ·rintro-w17 D17;rintro _ rfl;exact ar (aa aO rfl) rfl
   constructor
   ·rintro-w18 D18;rintro _ rfl;exact ar (aa bt rfl) rfl
   constructor
   ·rintro-w19 D19;rintro _ rfl;exact ar (aq an rfl (by exact (show _=some (Value.int .i64 s.term) from (h3.from_ ((ai.rfl_.next D11).next D19)).rd (fun _=>rfl)))) rfl
   constructor
   ·rintro-w20 D20;rintro v20_18 rfl v20_23 rfl;exact ar (cJ (b_ rfl rfl) (decide_eq_false (by have:=dq s m.tm;omega))) rfl
   exact trivial
  case hend=>
   intro w21 D21;rintro _ rfl v18 rfl _ rfl _ rfl _ rfl _ rfl v23 rfl _ rfl;show St ..;refine aj (af (br rfl (aM (af (ak (ag (ab (aa cw rfl) (ab (aq an rfl (by exact (show _=some (Value.int .i64 m.k) from ((h3.kept hzb hm9).from_ ((ai.rfl_.next D11).next D21)).rd 0 rfl))) ?_))))))));refine aj (af (bg (ak (ag (ab (cQ (bj rfl rfl) (beq_iff_eq.2 hk)) (asb rfl (aj (af (aL rfl (ak ?_))))))))));apply bK 29 [(57,eqp _),(58,eqp _),(59,eqp _),(60,eqp _),(61,eqp (.int .i64 s.vote)),(62,eqp _),(63,eqp _),(64,eqp _),(65,eqp _),(66,eqp _),(67,eqp _),(68,eqp _),(69,eqp _),(70,eqp _),(71,eqp _),(72,eqp _),(73,eqp _),(74,eqp _),(75,eqp _),(76,eqp _),(77,eqp _),(78,eqp _),(79,eqp _),(80,eqp _),(81,eqp _),(82,eqp _),(83,eqp _),(84,eqp _),(4,eqp _)] (by repeat first | exact cj | refine ch ?_ | refine bQ ?_) (by kernel_rfl) (by kernel_rfl) ⟨ah _,ah _,ah _,ah _,ah _,ah _,ah _,ah _,ah _,ah _,ah _,ah _,ah _,ah _,ah _,ah _,ah _,ah _,ah _,ah _,ah _,ah _,ah _,ah _,ah _,ah _,ah _,ah _,ah _,trivial⟩
   case hop=>
    constructor
    ·rintro-w23 D23;exact ar (aH (v:=.pointer _) rfl) rfl
    constructor
    ·rintro-w24 D24;rintro _ rfl;exact ar (ay rfl) rfl
    constructor
    ·rintro-w25 D25;rintro _ rfl;exact ar (aa aO rfl) rfl
    constructor
    ·rintro-w26 D26;rintro _ rfl;exact ar (aa bY rfl) rfl
    constructor
    ·rintro-w27 D27;rintro _ rfl;exact ar (aq an rfl (by exact (show _=some (Value.int .i64 s.vote) from (hc3.from_ (((ai.rfl_.next D11).next D21).next D27)).rd (fun _=>rfl)))) rfl
    constructor
    ·rintro-w28 D28;rintro v28_61 rfl;exact ar (cQ (bj rfl rfl) (beq_iff_eq.2 hv)) rfl
    constructor
    ·rintro-w29 D29;rintro _ rfl;exact ar (aH (v:=.bool _) rfl) rfl
    constructor
    ·rintro-w30 D30;rintro _ rfl;exact bJ rfl rfl rfl
    constructor
    ·rintro-w31 D31;rintro _ rfl _ rfl;exact bJ rfl rfl rfl
    constructor
    ·rintro-w32 D32;rintro _ rfl _ rfl;exact bJ rfl rfl rfl
    constructor
    ·rintro-w33 D33;rintro _ rfl _ rfl;exact bJ rfl rfl rfl
    constructor
    ·rintro-w34 D34;rintro _ rfl _ rfl;exact bJ rfl rfl rfl
    constructor
    ·rintro-w35 D35;rintro _ rfl;exact bJ rfl rfl rfl
    constructor
    ·rintro-w36 D36;rintro _ rfl _ rfl;exact bJ rfl rfl rfl
    constructor
    ·rintro-w37 D37;rintro _ rfl _ rfl _ rfl;exact bJ rfl rfl rfl
    constructor
    ·rintro-w38 D38;rintro _ rfl _ rfl;exact ar (aJ (v:=.bool _) rfl rfl) rfl
    constructor
    ·rintro-w39 D39;rintro _ rfl;exact ar (aH (v:=.bool _) rfl) rfl
    constructor
    ·rintro-w40 D40;rintro _ rfl;exact aD rfl (aH (v:=.pointer _) rfl) rfl
    constructor
    ·rintro-w41 D41;rintro _ rfl _ rfl;exact aD rfl (ay rfl) rfl
    constructor
    ·rintro-w42 D42;rintro _ rfl _ rfl;exact aD rfl (aa aO rfl) rfl
    constructor
    ·rintro-w43 D43;rintro _ rfl _ rfl;exact aD rfl (aa bq rfl) rfl
    constructor
    ·rintro-w44 D44;rintro _ rfl _ rfl;exact aD rfl (aG (cs:=[.int .i64 s.b,.int .i64 s.t,.slice aV.E s.es.length aV.Ec]) bB bd rfl (fB (hsV.b.from_ (((ai.rfl_.next D11).next D21).next D44)))) rfl
    constructor
    ·rintro-w45 D45;rintro _ rfl;exact aD rfl (aa bR rfl) rfl
    constructor
    ·rintro-w46 D46;rintro _ rfl _ rfl;exact aD rfl (aq an rfl (by exact (show _=some (Value.int .i64 m.ix) from ((hc3.kept hzb hm9).from_ (((ai.rfl_.next D11).next D21).next D46)).rd 4 rfl))) rfl
    constructor
    ·rintro-w47 D47;rintro _ rfl;exact aD rfl (aa ck rfl) rfl
    constructor
    ·rintro-w48 D48;rintro _ rfl _ rfl;exact aD rfl (aq an rfl (by exact (show _=some (Value.int .i64 m.lt) from ((hc3.kept hzb hm9).from_ (((ai.rfl_.next D11).next D21).next D48)).rd 5 rfl))) rfl
    constructor
    ·rintro-w49 D49;rintro _ rfl _ rfl _ rfl _ rfl;refine gx rfl fh ((gB s m aV.E aV.Ec _ (heV.from_ (((ai.rfl_.next D11).next D21).next D49)) hn).mono ?_);rintro v _ ⟨rfl,E49'⟩;exact ⟨E49',rfl⟩
    constructor
    ·rintro-w50 D50;rintro _ rfl _ rfl;exact ar (aJ (v:=.bool _) rfl rfl) rfl
    constructor
    ·rintro-w51 D51;rintro _ rfl;exact ar (cy (v:=.bool _) rfl) rfl
    exact trivial
   case hend=>
    intro w52 D52;rintro _ rfl _ rfl _ rfl _ rfl v61 rfl _ rfl _ rfl _ rfl _ rfl _ rfl _ rfl _ rfl _ rfl _ rfl _ rfl _ rfl _ rfl _ rfl _ rfl _ rfl _ rfl _ rfl _ rfl _ rfl _ rfl _ rfl _ rfl _ rfl _ rfl;show St ..;refine aj (af (ak (ak (ag (mvb rfl (aj (af (br rfl (aM (af (ag (mvp rfl (ab (aa bA rfl) (ab (aq an rfl (by exact (show _=some (Value.int .i64 m.f) from ((hc3.kept hzb hm9).from_ (((ai.rfl_.next D11).next D21).next D52)).rd 1 rfl))) ?_))))))))))))));refine mvb rfl (ab (cp (l:=[(0,.const (.int .i64 2)),(2,.tmp 98),(8,.tmp 99)]) (cG _ _)) (dm (t:=100) (v:=.agg _) (v':=.agg (bM ({ zM with k:=2,t:=m.f,ok:=false }:Msg)).toArray) rfl (by rfl) ?_));have h7:=hc3.from_ (((ai.rfl_.next D11).next D21).next D52);obtain ⟨tgA,aA,OA,ocA,LA,hsA⟩:=h7.ex;obtain rfl:=hsA.nilL;refine aB ea (fu wm Z7 T g ⟨s,[]⟩ _ h7 _ _ _ _ _ hsA (Nat.zero_le _) ({ zM with k:=2,t:=m.f,ok:=false }:Msg) ⟨c6,Col.none⟩) ?_;rintro v101 w53 ⟨rfl,h6⟩;refine aj (bE (cR (ey rfl ?_)));rw [iw (by omega) hk,kv (.inl hn)];exact ⟨rfl,h.back hE3 (h6.from_ ai.rfl_) hzi⟩
theorem uE (w0:World) (Z:Nat→Prop) (T g:Nat) (s:Rf) (m:Msg) (w:World) (h:a_ w0 Z w T g ⟨s,[]⟩) (_:RfF s) (_:m.tm≤1099511627775) (hk:m.k=1) (hgt:s.term=m.tm) (hn:gg s.b s.t s.es m.ix m.lt=true) (hv:s.vote≠0) (hu:s.vote=m.f) :
 Rt prog 89 [.pointer (some ⟨g,0,none⟩),.agg (bM m).toArray] w (fun v w'=>v=.tuple #[]∧a_ w0 Z w' T g (cN s m)):=by
 refine enter (n:=169) Tryz.func89 rfl rfl rfl (ak (ag (bZ (v:=.agg _) rfl ?_)));intro b3 w1 E3 hb3 hk3;obtain ⟨wm,hwm⟩:∃ x,x=w1:=⟨_,rfl⟩
 have h3a:=h.at_ (Z':=fun k=>Z k∨k=b3) E3 (fun k hk=>by
  rcases hk with e | e
  ·exact ⟨Nat.lt_of_lt_of_le (h.zw k e) E3.size,.inl e⟩
  ·subst e;exact ⟨hk3.lt,.inr (by omega)⟩)
 obtain ⟨Z7,hZ7⟩:∃ Z7,Z7=fun k=>Z k∨k=b3:=⟨_,rfl⟩
 have h3:a_ wm Z7 w1 T g ⟨s,[]⟩:=by
  rw [hZ7,hwm];exact h3a
 have hzi:∀ k,Z k→Z7 k:=fun k hk=>by rw [hZ7];exact .inl hk
 have hzb:Z7 b3:=by rw [hZ7];exact .inr rfl
 have hE3:ai w wm:=by rw [hwm];exact E3
 have hm9:Blk wm b3 39 (bM m).toArray:=by rw [hwm];exact hk3
 have hm3:=h3.kept hzb hm9;have hc3:=h3;obtain ⟨tgV,aV,OV,ocV,LV,hsV⟩:=hc3.ex;have heV:=(bw.rd hsV.f).e;refine aj (af (ak (ak ?_)))
 skip
 apply bK 8 [(5,eqp _),(6,eqp (.int .i64 m.tm)),(7,eqp _),(8,eqp _),(9,eqp _),(10,eqp _),(11,eqp (.int .i64 s.term)),(12,eqp _)] (by repeat first | exact cj | refine ch ?_ | refine bQ ?_) (by kernel_rfl) (by kernel_rfl) ⟨ah _,ah _,ah _,ah _,ah _,ah _,ah _,ah _,trivial⟩
 case hop=>
  constructor
  ·rintro-w3 D3;exact ar (aa bu rfl) rfl
  constructor
  ·rintro-w4 D4;rintro _ rfl;exact ar (aq an rfl (by exact (show _=some (Value.int .i64 m.tm) from (hm3.from_ (ai.rfl_.next D4)).rd 3 rfl))) rfl
  constructor
  ·rintro-w5 D5;exact ar (aH (v:=.pointer _) rfl) rfl
  constructor
  ·rintro-w6 D6;rintro _ rfl;exact ar (ay rfl) rfl
  constructor
  ·rintro-w7 D7;rintro _ rfl;exact ar (aa aO rfl) rfl
  constructor
  ·rintro-w8 D8;rintro _ rfl;exact ar (aa bt rfl) rfl
  constructor
  ·rintro-w9 D9;rintro _ rfl;exact ar (aq an rfl (by exact (show _=some (Value.int .i64 s.term) from (h3.from_ (ai.rfl_.next D9)).rd (fun _=>rfl)))) rfl
  constructor
  ·rintro-w10 D10;rintro v10_6 rfl v10_11 rfl;exact ar (cJ (bS rfl rfl) (decide_eq_false (by omega))) rfl
  exact trivial
 case hend=>
  intro w11 D11;rintro _ rfl v6 rfl _ rfl _ rfl _ rfl _ rfl v11 rfl _ rfl;show St ..;refine aj (af (br rfl (aM (af (ak (ak ?_))))))
  skip
  apply bK 8 [(17,eqp _),(18,eqp (.int .i64 m.tm)),(19,eqp _),(20,eqp _),(21,eqp _),(22,eqp _),(23,eqp (.int .i64 s.term)),(24,eqp _)] (by repeat first | exact cj | refine ch ?_ | refine bQ ?_) (by kernel_rfl) (by kernel_rfl) ⟨ah _,ah _,ah _,ah _,ah _,ah _,ah _,ah _,trivial⟩
  case hop=>
   constructor
   ·rintro-w13 D13;exact ar (aa bu rfl) rfl
   constructor
   ·rintro-w14 D14;rintro _ rfl;exact ar (aq an rfl (by exact (show _=some (Value.int .i64 m.tm) from ((h3.kept hzb hm9).from_ ((ai.rfl_.next D11).next D14)).rd 3 rfl))) rfl
   constructor
   ·rintro-w15 D15;exact ar (aH (v:=.pointer _) rfl) rfl
   constructor
   ·rintro-w16 D16;rintro _ rfl;exact ar (ay rfl) rfl
   constructor
   ·rintro-w17 D17;rintro _ rfl;exact ar (aa aO rfl) rfl
   constructor
   ·rintro-w18 D18;rintro _ rfl;exact ar (aa bt rfl) rfl
   constructor
   ·rintro-w19 D19;rintro _ rfl;exact ar (aq an rfl (by exact (show _=some (Value.int .i64 s.term) from (h3.from_ ((ai.rfl_.next D11).next D19)).rd (fun _=>rfl)))) rfl
   constructor
   ·rintro-w20 D20;rintro v20_18 rfl v20_23 rfl;exact ar (cJ (b_ rfl rfl) (decide_eq_false (by have:=dq s m.tm;omega))) rfl
   exact trivial
  case hend=>
   intro w21 D21;rintro _ rfl v18 rfl _ rfl _ rfl _ rfl _ rfl v23 rfl _ rfl;show St ..;refine aj (af (br rfl (aM (af (ak (ag (ab (aa cw rfl) (ab (aq an rfl (by exact (show _=some (Value.int .i64 m.k) from ((h3.kept hzb hm9).from_ ((ai.rfl_.next D11).next D21)).rd 0 rfl))) ?_))))))));refine aj (af (bg (ak (ag (ab (cQ (bj rfl rfl) (beq_iff_eq.2 hk)) (asb rfl (aj (af (aL rfl (ak ?_))))))))));apply bK 29 [(57,eqp _),(58,eqp _),(59,eqp _),(60,eqp _),(61,eqp (.int .i64 s.vote)),(62,eqp _),(63,eqp _),(64,eqp _),(65,eqp _),(66,eqp _),(67,eqp _),(68,eqp _),(69,eqp _),(70,eqp _),(71,eqp _),(72,eqp _),(73,eqp _),(74,eqp _),(75,eqp _),(76,eqp _),(77,eqp _),(78,eqp _),(79,eqp _),(80,eqp _),(81,eqp _),(82,eqp _),(83,eqp _),(84,eqp _),(4,eqp _)] (by repeat first | exact cj | refine ch ?_ | refine bQ ?_) (by kernel_rfl) (by kernel_rfl) ⟨ah _,ah _,ah _,ah _,ah _,ah _,ah _,ah _,ah _,ah _,ah _,ah _,ah _,ah _,ah _,ah _,ah _,ah _,ah _,ah _,ah _,ah _,ah _,ah _,ah _,ah _,ah _,ah _,ah _,trivial⟩
   case hop=>
    constructor
    ·rintro-w23 D23;exact ar (aH (v:=.pointer _) rfl) rfl
    constructor
    ·rintro-w24 D24;rintro _ rfl;exact ar (ay rfl) rfl
    constructor
    ·rintro-w25 D25;rintro _ rfl;exact ar (aa aO rfl) rfl
    constructor
    ·rintro-w26 D26;rintro _ rfl;exact ar (aa bY rfl) rfl
    constructor
    ·rintro-w27 D27;rintro _ rfl;exact ar (aq an rfl (by exact (show _=some (Value.int .i64 s.vote) from (hc3.from_ (((ai.rfl_.next D11).next D21).next D27)).rd (fun _=>rfl)))) rfl
    constructor
    ·rintro-w28 D28;rintro v28_61 rfl;exact ar (cJ (bj rfl rfl) (beq_eq_false_iff_ne.2 hv)) rfl
    constructor
    ·rintro-w29 D29;rintro _ rfl;exact ar (aH (v:=.bool _) rfl) rfl
    constructor
    ·rintro-w30 D30;rintro _ rfl;exact aD rfl (aH (v:=.pointer _) rfl) rfl
    constructor
    ·rintro-w31 D31;rintro _ rfl _ rfl;exact aD rfl (ay rfl) rfl
    constructor
    ·rintro-w32 D32;rintro _ rfl _ rfl;exact aD rfl (aa aO rfl) rfl
    constructor
    ·rintro-w33 D33;rintro _ rfl _ rfl;exact aD rfl (aa bY rfl) rfl
    constructor
    ·rintro-w34 D34;rintro _ rfl _ rfl;exact aD rfl (aq an rfl (by exact (show _=some (Value.int .i64 s.vote) from (hc3.from_ (((ai.rfl_.next D11).next D21).next D34)).rd (fun _=>rfl)))) rfl
    constructor
    ·rintro-w35 D35;rintro _ rfl;exact aD rfl (aa bA rfl) rfl
    constructor
    ·rintro-w36 D36;rintro _ rfl _ rfl;exact aD rfl (aq an rfl (by exact (show _=some (Value.int .i64 m.f) from ((hc3.kept hzb hm9).from_ (((ai.rfl_.next D11).next D21).next D36)).rd 1 rfl))) rfl
    constructor
    ·rintro-w37 D37;rintro _ rfl _ rfl _ rfl;exact aD rfl (cQ (bj rfl rfl) (beq_iff_eq.2 hu)) rfl
    constructor
    ·rintro-w38 D38;rintro _ rfl _ rfl;exact ar (aw (v:=.bool _) rfl rfl) rfl
    constructor
    ·rintro-w39 D39;rintro _ rfl;exact ar (aH (v:=.bool _) rfl) rfl
    constructor
    ·rintro-w40 D40;rintro _ rfl;exact aD rfl (aH (v:=.pointer _) rfl) rfl
    constructor
    ·rintro-w41 D41;rintro _ rfl _ rfl;exact aD rfl (ay rfl) rfl
    constructor
    ·rintro-w42 D42;rintro _ rfl _ rfl;exact aD rfl (aa aO rfl) rfl
    constructor
    ·rintro-w43 D43;rintro _ rfl _ rfl;exact aD rfl (aa bq rfl) rfl
    constructor
    ·rintro-w44 D44;rintro _ rfl _ rfl;exact aD rfl (aG (cs:=[.int .i64 s.b,.int .i64 s.t,.slice aV.E s.es.length aV.Ec]) bB bd rfl (fB (hsV.b.from_ (((ai.rfl_.next D11).next D21).next D44)))) rfl
    constructor
    ·rintro-w45 D45;rintro _ rfl;exact aD rfl (aa bR rfl) rfl
    constructor
    ·rintro-w46 D46;rintro _ rfl _ rfl;exact aD rfl (aq an rfl (by exact (show _=some (Value.int .i64 m.ix) from ((hc3.kept hzb hm9).from_ (((ai.rfl_.next D11).next D21).next D46)).rd 4 rfl))) rfl
    constructor
    ·rintro-w47 D47;rintro _ rfl;exact aD rfl (aa ck rfl) rfl
    constructor
    ·rintro-w48 D48;rintro _ rfl _ rfl;exact aD rfl (aq an rfl (by exact (show _=some (Value.int .i64 m.lt) from ((hc3.kept hzb hm9).from_ (((ai.rfl_.next D11).next D21).next D48)).rd 5 rfl))) rfl
    constructor
    ·rintro-w49 D49;rintro _ rfl _ rfl _ rfl _ rfl;refine gx rfl fh ((gB s m aV.E aV.Ec _ (heV.from_ (((ai.rfl_.next D11).next D21).next D49)) hn).mono ?_);rintro v _ ⟨rfl,E49'⟩;exact ⟨E49',rfl⟩
    constructor
    ·rintro-w50 D50;rintro _ rfl _ rfl;exact ar (aJ (v:=.bool _) rfl rfl) rfl
    constructor
    ·rintro-w51 D51;rintro _ rfl;exact ar (cy (v:=.bool _) rfl) rfl
    exact trivial
   case hend=>
    intro w52 D52;rintro _ rfl _ rfl _ rfl _ rfl v61 rfl _ rfl _ rfl _ rfl _ rfl _ rfl _ rfl _ rfl _ rfl _ rfl _ rfl _ rfl _ rfl _ rfl _ rfl _ rfl _ rfl _ rfl _ rfl _ rfl _ rfl _ rfl _ rfl _ rfl _ rfl;show St ..;refine aj (af (ak (ak (ag (mvb rfl (aj (af (aL rfl (ak (ag (mvp rfl (ab (aa bA rfl) (ab (aq an rfl (by exact (show _=some (Value.int .i64 m.f) from ((hc3.kept hzb hm9).from_ (((ai.rfl_.next D11).next D21).next D52)).rd 1 rfl))) ?_)))))))))))));refine ab (ay rfl) (ab (aa aO rfl) (ab (aa bY rfl) (fH (s':=({ s with vote:=m.f }:Rf)) aS rfl rfl rfl (hc3.from_ (((ai.rfl_.next D11).next D21).next D52)) (fun _=>⟨by decide,rfl⟩) ⟨rfl,rfl,rfl,rfl,rfl,rfl⟩ ?_)));intro w53 h9a;refine aj (af (ag (mvp rfl (ab (ay rfl) (ab (aa aO rfl) (ab (aa c_ rfl) (fH (s':=({ s with vote:=m.f,elapsed:=0 }:Rf)) aS rfl rfl rfl (h9a.from_ ai.rfl_) (fun _=>⟨by decide,rfl⟩) ⟨rfl,rfl,rfl,rfl,rfl,rfl⟩ ?_)))))));intro w54 h9b;refine aj (af (ag (mvp rfl (ab (aa bA rfl) (ab (aq an rfl (by exact (show _=some (Value.int .i64 m.f) from ((h9b.kept hzb hm9).from_ ai.rfl_).rd 1 rfl))) ?_)))));refine mvb rfl (ab (cp (l:=[(0,.const (.int .i64 2)),(2,.tmp 98),(8,.tmp 99)]) (cG _ _)) (dm (t:=100) (v:=.agg _) (v':=.agg (bM ({ zM with k:=2,t:=m.f,ok:=true }:Msg)).toArray) rfl (by rfl) ?_));have h7:=h9b.from_ ai.rfl_;obtain ⟨tgA,aA,OA,ocA,LA,hsA⟩:=h7.ex;obtain rfl:=hsA.nilL;refine aB ea (fu wm Z7 T g ⟨({ s with vote:=m.f,elapsed:=0 }:Rf),[]⟩ _ h7 _ _ _ _ _ hsA (Nat.zero_le _) ({ zM with k:=2,t:=m.f,ok:=true }:Msg) ⟨c6,Col.none⟩) ?_;rintro v101 w55 ⟨rfl,h6⟩;refine aj (bE (cR (ey rfl ?_)));rw [iw (by omega) hk,mi hn (.inr hu)];exact ⟨rfl,h.back hE3 (h6.from_ ai.rfl_) hzi⟩
theorem uD (w0:World) (Z:Nat→Prop) (T g:Nat) (s:Rf) (m:Msg) (w:World) (h:a_ w0 Z w T g ⟨s,[]⟩) (_:RfF s) (_:m.tm≤1099511627775) (hk:m.k=1) (hgt:s.term=m.tm) (hn:gg s.b s.t s.es m.ix m.lt=false) (hv:s.vote≠0) (hu:s.vote=m.f) :
 Rt prog 89 [.pointer (some ⟨g,0,none⟩),.agg (bM m).toArray] w (fun v w'=>v=.tuple #[]∧a_ w0 Z w' T g (cN s m)):=by
 refine enter (n:=169) Tryz.func89 rfl rfl rfl (ak (ag (bZ (v:=.agg _) rfl ?_)));intro b3 w1 E3 hb3 hk3;obtain ⟨wm,hwm⟩:∃ x,x=w1:=⟨_,rfl⟩
 have h3a:=h.at_ (Z':=fun k=>Z k∨k=b3) E3 (fun k hk=>by
  rcases hk with e | e
  ·exact ⟨Nat.lt_of_lt_of_le (h.zw k e) E3.size,.inl e⟩
  ·subst e;exact ⟨hk3.lt,.inr (by omega)⟩)
 obtain ⟨Z7,hZ7⟩:∃ Z7,Z7=fun k=>Z k∨k=b3:=⟨_,rfl⟩
 have h3:a_ wm Z7 w1 T g ⟨s,[]⟩:=by
  rw [hZ7,hwm];exact h3a
 have hzi:∀ k,Z k→Z7 k:=fun k hk=>by rw [hZ7];exact .inl hk
 have hzb:Z7 b3:=by rw [hZ7];exact .inr rfl
 have hE3:ai w wm:=by rw [hwm];exact E3
 have hm9:Blk wm b3 39 (bM m).toArray:=by rw [hwm];exact hk3
 have hm3:=h3.kept hzb hm9;have hc3:=h3;obtain ⟨tgV,aV,OV,ocV,LV,hsV⟩:=hc3.ex;have heV:=(bw.rd hsV.f).e;refine aj (af (ak (ak ?_)))
 skip
 apply bK 8 [(5,eqp _),(6,eqp (.int .i64 m.tm)),(7,eqp _),(8,eqp _),(9,eqp _),(10,eqp _),(11,eqp (.int .i64 s.term)),(12,eqp _)] (by repeat first | exact cj | refine ch ?_ | refine bQ ?_) (by kernel_rfl) (by kernel_rfl) ⟨ah _,ah _,ah _,ah _,ah _,ah _,ah _,ah _,trivial⟩
 case hop=>
  constructor
  ·rintro-w3 D3;exact ar (aa bu rfl) rfl
  constructor
  ·rintro-w4 D4;rintro _ rfl;exact ar (aq an rfl (by exact (show _=some (Value.int .i64 m.tm) from (hm3.from_ (ai.rfl_.next D4)).rd 3 rfl))) rfl
  constructor
  ·rintro-w5 D5;exact ar (aH (v:=.pointer _) rfl) rfl
  constructor
  ·rintro-w6 D6;rintro _ rfl;exact ar (ay rfl) rfl
  constructor
  ·rintro-w7 D7;rintro _ rfl;exact ar (aa aO rfl) rfl
  constructor
  ·rintro-w8 D8;rintro _ rfl;exact ar (aa bt rfl) rfl
  constructor
  ·rintro-w9 D9;rintro _ rfl;exact ar (aq an rfl (by exact (show _=some (Value.int .i64 s.term) from (h3.from_ (ai.rfl_.next D9)).rd (fun _=>rfl)))) rfl
  constructor
  ·rintro-w10 D10;rintro v10_6 rfl v10_11 rfl;exact ar (cJ (bS rfl rfl) (decide_eq_false (by omega))) rfl
  exact trivial
 case hend=>
  intro w11 D11;rintro _ rfl v6 rfl _ rfl _ rfl _ rfl _ rfl v11 rfl _ rfl;show St ..;refine aj (af (br rfl (aM (af (ak (ak ?_))))))
  skip
  apply bK 8 [(17,eqp _),(18,eqp (.int .i64 m.tm)),(19,eqp _),(20,eqp _),(21,eqp _),(22,eqp _),(23,eqp (.int .i64 s.term)),(24,eqp _)] (by repeat first | exact cj | refine ch ?_ | refine bQ ?_) (by kernel_rfl) (by kernel_rfl) ⟨ah _,ah _,ah _,ah _,ah _,ah _,ah _,ah _,trivial⟩
  case hop=>
   constructor
   ·rintro-w13 D13;exact ar (aa bu rfl) rfl
   constructor
   ·rintro-w14 D14;rintro _ rfl;exact ar (aq an rfl (by exact (show _=some (Value.int .i64 m.tm) from ((h3.kept hzb hm9).from_ ((ai.rfl_.next D11).next D14)).rd 3 rfl))) rfl
   constructor
   ·rintro-w15 D15;exact ar (aH (v:=.pointer _) rfl) rfl
   constructor
   ·rintro-w16 D16;rintro _ rfl;exact ar (ay rfl) rfl
   constructor
   ·rintro-w17 D17;rintro _ rfl;exact ar (aa aO rfl) rfl
   constructor
   ·rintro-w18 D18;rintro _ rfl;exact ar (aa bt rfl) rfl
   constructor
   ·rintro-w19 D19;rintro _ rfl;exact ar (aq an rfl (by exact (show _=some (Value.int .i64 s.term) from (h3.from_ ((ai.rfl_.next D11).next D19)).rd (fun _=>rfl)))) rfl
   constructor
   ·rintro-w20 D20;rintro v20_18 rfl v20_23 rfl;exact ar (cJ (b_ rfl rfl) (decide_eq_false (by have:=dq s m.tm;omega))) rfl
   exact trivial
  case hend=>
   intro w21 D21;rintro _ rfl v18 rfl _ rfl _ rfl _ rfl _ rfl v23 rfl _ rfl;show St ..;refine aj (af (br rfl (aM (af (ak (ag (ab (aa cw rfl) (ab (aq an rfl (by exact (show _=some (Value.int .i64 m.k) from ((h3.kept hzb hm9).from_ ((ai.rfl_.next D11).next D21)).rd 0 rfl))) ?_))))))));refine aj (af (bg (ak (ag (ab (cQ (bj rfl rfl) (beq_iff_eq.2 hk)) (asb rfl (aj (af (aL rfl (ak ?_))))))))));apply bK 29 [(57,eqp _),(58,eqp _),(59,eqp _),(60,eqp _),(61,eqp (.int .i64 s.vote)),(62,eqp _),(63,eqp _),(64,eqp _),(65,eqp _),(66,eqp _),(67,eqp _),(68,eqp _),(69,eqp _),(70,eqp _),(71,eqp _),(72,eqp _),(73,eqp _),(74,eqp _),(75,eqp _),(76,eqp _),(77,eqp _),(78,eqp _),(79,eqp _),(80,eqp _),(81,eqp _),(82,eqp _),(83,eqp _),(84,eqp _),(4,eqp _)] (by repeat first | exact cj | refine ch ?_ | refine bQ ?_) (by kernel_rfl) (by kernel_rfl) ⟨ah _,ah _,ah _,ah _,ah _,ah _,ah _,ah _,ah _,ah _,ah _,ah _,ah _,ah _,ah _,ah _,ah _,ah _,ah _,ah _,ah _,ah _,ah _,ah _,ah _,ah _,ah _,ah _,ah _,trivial⟩
   case hop=>
    constructor
    ·rintro-w23 D23;exact ar (aH (v:=.pointer _) rfl) rfl
    constructor
    ·rintro-w24 D24;rintro _ rfl;exact ar (ay rfl) rfl
    constructor
    ·rintro-w25 D25;rintro _ rfl;exact ar (aa aO rfl) rfl
    constructor
    ·rintro-w26 D26;rintro _ rfl;exact ar (aa bY rfl) rfl
    constructor
    ·rintro-w27 D27;rintro _ rfl;exact ar (aq an rfl (by exact (show _=some (Value.int .i64 s.vote) from (hc3.from_ (((ai.rfl_.next D11).next D21).next D27)).rd (fun _=>rfl)))) rfl
    constructor
    ·rintro-w28 D28;rintro v28_61 rfl;exact ar (cJ (bj rfl rfl) (beq_eq_false_iff_ne.2 hv)) rfl
    constructor
    ·rintro-w29 D29;rintro _ rfl;exact ar (aH (v:=.bool _) rfl) rfl
    constructor
    ·rintro-w30 D30;rintro _ rfl;exact aD rfl (aH (v:=.pointer _) rfl) rfl
    constructor
    ·rintro-w31 D31;rintro _ rfl _ rfl;exact aD rfl (ay rfl) rfl
    constructor
    ·rintro-w32 D32;rintro _ rfl _ rfl;exact aD rfl (aa aO rfl) rfl
    constructor
    ·rintro-w33 D33;rintro _ rfl _ rfl;exact aD rfl (aa bY rfl) rfl
    constructor
    ·rintro-w34 D34;rintro _ rfl _ rfl;exact aD rfl (aq an rfl (by exact (show _=some (Value.int .i64 s.vote) from (hc3.from_ (((ai.rfl_.next D11).next D21).next D34)).rd (fun _=>rfl)))) rfl
    constructor
    ·rintro-w35 D35;rintro _ rfl;exact aD rfl (aa bA rfl) rfl
    constructor
    ·rintro-w36 D36;rintro _ rfl _ rfl;exact aD rfl (aq an rfl (by exact (show _=some (Value.int .i64 m.f) from ((hc3.kept hzb hm9).from_ (((ai.rfl_.next D11).next D21).next D36)).rd 1 rfl))) rfl
    constructor
    ·rintro-w37 D37;rintro _ rfl _ rfl _ rfl;exact aD rfl (cQ (bj rfl rfl) (beq_iff_eq.2 hu)) rfl
    constructor
    ·rintro-w38 D38;rintro _ rfl _ rfl;exact ar (aw (v:=.bool _) rfl rfl) rfl
    constructor
    ·rintro-w39 D39;rintro _ rfl;exact ar (aH (v:=.bool _) rfl) rfl
    constructor
    ·rintro-w40 D40;rintro _ rfl;exact aD rfl (aH (v:=.pointer _) rfl) rfl
    constructor
    ·rintro-w41 D41;rintro _ rfl _ rfl;exact aD rfl (ay rfl) rfl
    constructor
    ·rintro-w42 D42;rintro _ rfl _ rfl;exact aD rfl (aa aO rfl) rfl
    constructor
    ·rintro-w43 D43;rintro _ rfl _ rfl;exact aD rfl (aa bq rfl) rfl
    constructor
    ·rintro-w44 D44;rintro _ rfl _ rfl;exact aD rfl (aG (cs:=[.int .i64 s.b,.int .i64 s.t,.slice aV.E s.es.length aV.Ec]) bB bd rfl (fB (hsV.b.from_ (((ai.rfl_.next D11).next D21).next D44)))) rfl
    constructor
    ·rintro-w45 D45;rintro _ rfl;exact aD rfl (aa bR rfl) rfl
    constructor
    ·rintro-w46 D46;rintro _ rfl _ rfl;exact aD rfl (aq an rfl (by exact (show _=some (Value.int .i64 m.ix) from ((hc3.kept hzb hm9).from_ (((ai.rfl_.next D11).next D21).next D46)).rd 4 rfl))) rfl
    constructor
    ·rintro-w47 D47;rintro _ rfl;exact aD rfl (aa ck rfl) rfl
    constructor
    ·rintro-w48 D48;rintro _ rfl _ rfl;exact aD rfl (aq an rfl (by exact (show _=some (Value.int .i64 m.lt) from ((hc3.kept hzb hm9).from_ (((ai.rfl_.next D11).next D21).next D48)).rd 5 rfl))) rfl
    constructor
    ·rintro-w49 D49;rintro _ rfl _ rfl _ rfl _ rfl;refine gx rfl fh ((gB s m aV.E aV.Ec _ (heV.from_ (((ai.rfl_.next D11).next D21).next D49)) hn).mono ?_);rintro v _ ⟨rfl,E49'⟩;exact ⟨E49',rfl⟩
    constructor
    ·rintro-w50 D50;rintro _ rfl _ rfl;exact ar (aJ (v:=.bool _) rfl rfl) rfl
    constructor
    ·rintro-w51 D51;rintro _ rfl;exact ar (cy (v:=.bool _) rfl) rfl
    exact trivial
   case hend=>
    intro w52 D52;rintro _ rfl _ rfl _ rfl _ rfl v61 rfl _ rfl _ rfl _ rfl _ rfl _ rfl _ rfl _ rfl _ rfl _ rfl _ rfl _ rfl _ rfl _ rfl _ rfl _ rfl _ rfl _ rfl _ rfl _ rfl _ rfl _ rfl _ rfl _ rfl _ rfl;show St ..;refine aj (af (ak (ak (ag (mvb rfl (aj (af (br rfl (aM (af (ag (mvp rfl (ab (aa bA rfl) (ab (aq an rfl (by exact (show _=some (Value.int .i64 m.f) from ((hc3.kept hzb hm9).from_ (((ai.rfl_.next D11).next D21).next D52)).rd 1 rfl))) ?_))))))))))))));refine mvb rfl (ab (cp (l:=[(0,.const (.int .i64 2)),(2,.tmp 98),(8,.tmp 99)]) (cG _ _)) (dm (t:=100) (v:=.agg _) (v':=.agg (bM ({ zM with k:=2,t:=m.f,ok:=false }:Msg)).toArray) rfl (by rfl) ?_));have h7:=hc3.from_ (((ai.rfl_.next D11).next D21).next D52);obtain ⟨tgA,aA,OA,ocA,LA,hsA⟩:=h7.ex;obtain rfl:=hsA.nilL;refine aB ea (fu wm Z7 T g ⟨s,[]⟩ _ h7 _ _ _ _ _ hsA (Nat.zero_le _) ({ zM with k:=2,t:=m.f,ok:=false }:Msg) ⟨c6,Col.none⟩) ?_;rintro v101 w53 ⟨rfl,h6⟩;refine aj (bE (cR (ey rfl ?_)));rw [iw (by omega) hk,kv (.inl hn)];exact ⟨rfl,h.back hE3 (h6.from_ ai.rfl_) hzi⟩
theorem pz (w0:World) (Z:Nat→Prop) (T g:Nat) (s:Rf) (m:Msg) (w:World) (h:a_ w0 Z w T g ⟨s,[]⟩) (_:RfF s) (_:m.tm≤1099511627775) (hk:m.k=1) (hgt:s.term=m.tm) (hv:s.vote≠0) (hu:s.vote≠m.f) :
 Rt prog 89 [.pointer (some ⟨g,0,none⟩),.agg (bM m).toArray] w (fun v w'=>v=.tuple #[]∧a_ w0 Z w' T g (cN s m)):=by
 refine enter (n:=169) Tryz.func89 rfl rfl rfl (ak (ag (bZ (v:=.agg _) rfl ?_)));intro b3 w1 E3 hb3 hk3;obtain ⟨wm,hwm⟩:∃ x,x=w1:=⟨_,rfl⟩
 have h3a:=h.at_ (Z':=fun k=>Z k∨k=b3) E3 (fun k hk=>by
  rcases hk with e | e
  ·exact ⟨Nat.lt_of_lt_of_le (h.zw k e) E3.size,.inl e⟩
  ·subst e;exact ⟨hk3.lt,.inr (by omega)⟩)
 obtain ⟨Z7,hZ7⟩:∃ Z7,Z7=fun k=>Z k∨k=b3:=⟨_,rfl⟩
 have h3:a_ wm Z7 w1 T g ⟨s,[]⟩:=by
  rw [hZ7,hwm];exact h3a
 have hzi:∀ k,Z k→Z7 k:=fun k hk=>by rw [hZ7];exact .inl hk
 have hzb:Z7 b3:=by rw [hZ7];exact .inr rfl
 have hE3:ai w wm:=by rw [hwm];exact E3
 have hm9:Blk wm b3 39 (bM m).toArray:=by rw [hwm];exact hk3
 have hm3:=h3.kept hzb hm9;have hc3:=h3;obtain ⟨tgV,aV,OV,ocV,LV,hsV⟩:=hc3.ex;have heV:=(bw.rd hsV.f).e;refine aj (af (ak (ak ?_)))
 skip
 apply bK 8 [(5,eqp _),(6,eqp (.int .i64 m.tm)),(7,eqp _),(8,eqp _),(9,eqp _),(10,eqp _),(11,eqp (.int .i64 s.term)),(12,eqp _)] (by repeat first | exact cj | refine ch ?_ | refine bQ ?_) (by kernel_rfl) (by kernel_rfl) ⟨ah _,ah _,ah _,ah _,ah _,ah _,ah _,ah _,trivial⟩
 case hop=>
  constructor
  ·rintro-w3 D3;exact ar (aa bu rfl) rfl
  constructor
  ·rintro-w4 D4;rintro _ rfl;exact ar (aq an rfl (by exact (show _=some (Value.int .i64 m.tm) from (hm3.from_ (ai.rfl_.next D4)).rd 3 rfl))) rfl
  constructor
  ·rintro-w5 D5;exact ar (aH (v:=.pointer _) rfl) rfl
  constructor
  ·rintro-w6 D6;rintro _ rfl;exact ar (ay rfl) rfl
  constructor
  ·rintro-w7 D7;rintro _ rfl;exact ar (aa aO rfl) rfl
  constructor
  ·rintro-w8 D8;rintro _ rfl;exact ar (aa bt rfl) rfl
  constructor
  ·rintro-w9 D9;rintro _ rfl;exact ar (aq an rfl (by exact (show _=some (Value.int .i64 s.term) from (h3.from_ (ai.rfl_.next D9)).rd (fun _=>rfl)))) rfl
  constructor
  ·rintro-w10 D10;rintro v10_6 rfl v10_11 rfl;exact ar (cJ (bS rfl rfl) (decide_eq_false (by omega))) rfl
  exact trivial
 case hend=>
  intro w11 D11;rintro _ rfl v6 rfl _ rfl _ rfl _ rfl _ rfl v11 rfl _ rfl;show St ..;refine aj (af (br rfl (aM (af (ak (ak ?_))))))
  skip
  apply bK 8 [(17,eqp _),(18,eqp (.int .i64 m.tm)),(19,eqp _),(20,eqp _),(21,eqp _),(22,eqp _),(23,eqp (.int .i64 s.term)),(24,eqp _)] (by repeat first | exact cj | refine ch ?_ | refine bQ ?_) (by kernel_rfl) (by kernel_rfl) ⟨ah _,ah _,ah _,ah _,ah _,ah _,ah _,ah _,trivial⟩
  case hop=>
   constructor
   ·rintro-w13 D13;exact ar (aa bu rfl) rfl
   constructor
   ·rintro-w14 D14;rintro _ rfl;exact ar (aq an rfl (by exact (show _=some (Value.int .i64 m.tm) from ((h3.kept hzb hm9).from_ ((ai.rfl_.next D11).next D14)).rd 3 rfl))) rfl
   constructor
   ·rintro-w15 D15;exact ar (aH (v:=.pointer _) rfl) rfl
   constructor
   ·rintro-w16 D16;rintro _ rfl;exact ar (ay rfl) rfl
   constructor
   ·rintro-w17 D17;rintro _ rfl;exact ar (aa aO rfl) rfl
   constructor
   ·rintro-w18 D18;rintro _ rfl;exact ar (aa bt rfl) rfl
   constructor
   ·rintro-w19 D19;rintro _ rfl;exact ar (aq an rfl (by exact (show _=some (Value.int .i64 s.term) from (h3.from_ ((ai.rfl_.next D11).next D19)).rd (fun _=>rfl)))) rfl
   constructor
   ·rintro-w20 D20;rintro v20_18 rfl v20_23 rfl;exact ar (cJ (b_ rfl rfl) (decide_eq_false (by have:=dq s m.tm;omega))) rfl
   exact trivial
  case hend=>
   intro w21 D21;rintro _ rfl v18 rfl _ rfl _ rfl _ rfl _ rfl v23 rfl _ rfl;show St ..;refine aj (af (br rfl (aM (af (ak (ag (ab (aa cw rfl) (ab (aq an rfl (by exact (show _=some (Value.int .i64 m.k) from ((h3.kept hzb hm9).from_ ((ai.rfl_.next D11).next D21)).rd 0 rfl))) ?_))))))));refine aj (af (bg (ak (ag (ab (cQ (bj rfl rfl) (beq_iff_eq.2 hk)) (asb rfl (aj (af (aL rfl (ak ?_))))))))));apply bK 29 [(57,eqp _),(58,eqp _),(59,eqp _),(60,eqp _),(61,eqp (.int .i64 s.vote)),(62,eqp _),(63,eqp _),(64,eqp _),(65,eqp _),(66,eqp _),(67,eqp _),(68,eqp _),(69,eqp _),(70,eqp _),(71,eqp _),(72,eqp _),(73,eqp _),(74,eqp _),(75,eqp _),(76,eqp _),(77,eqp _),(78,eqp _),(79,eqp _),(80,eqp _),(81,eqp _),(82,eqp _),(83,eqp _),(84,eqp _),(4,eqp _)] (by repeat first | exact cj | refine ch ?_ | refine bQ ?_) (by kernel_rfl) (by kernel_rfl) ⟨ah _,ah _,ah _,ah _,ah _,ah _,ah _,ah _,ah _,ah _,ah _,ah _,ah _,ah _,ah _,ah _,ah _,ah _,ah _,ah _,ah _,ah _,ah _,ah _,ah _,ah _,ah _,ah _,ah _,trivial⟩
   case hop=>
    constructor
    ·rintro-w23 D23;exact ar (aH (v:=.pointer _) rfl) rfl
    constructor
    ·rintro-w24 D24;rintro _ rfl;exact ar (ay rfl) rfl
    constructor
    ·rintro-w25 D25;rintro _ rfl;exact ar (aa aO rfl) rfl
    constructor
    ·rintro-w26 D26;rintro _ rfl;exact ar (aa bY rfl) rfl
    constructor
    ·rintro-w27 D27;rintro _ rfl;exact ar (aq an rfl (by exact (show _=some (Value.int .i64 s.vote) from (hc3.from_ (((ai.rfl_.next D11).next D21).next D27)).rd (fun _=>rfl)))) rfl
    constructor
    ·rintro-w28 D28;rintro v28_61 rfl;exact ar (cJ (bj rfl rfl) (beq_eq_false_iff_ne.2 hv)) rfl
    constructor
    ·rintro-w29 D29;rintro _ rfl;exact ar (aH (v:=.bool _) rfl) rfl
    constructor
    ·rintro-w30 D30;rintro _ rfl;exact aD rfl (aH (v:=.pointer _) rfl) rfl
    constructor
    ·rintro-w31 D31;rintro _ rfl _ rfl;exact aD rfl (ay rfl) rfl
    constructor
    ·rintro-w32 D32;rintro _ rfl _ rfl;exact aD rfl (aa aO rfl) rfl
    constructor
    ·rintro-w33 D33;rintro _ rfl _ rfl;exact aD rfl (aa bY rfl) rfl
    constructor
    ·rintro-w34 D34;rintro _ rfl _ rfl;exact aD rfl (aq an rfl (by exact (show _=some (Value.int .i64 s.vote) from (hc3.from_ (((ai.rfl_.next D11).next D21).next D34)).rd (fun _=>rfl)))) rfl
    constructor
    ·rintro-w35 D35;rintro _ rfl;exact aD rfl (aa bA rfl) rfl
    constructor
    ·rintro-w36 D36;rintro _ rfl _ rfl;exact aD rfl (aq an rfl (by exact (show _=some (Value.int .i64 m.f) from ((hc3.kept hzb hm9).from_ (((ai.rfl_.next D11).next D21).next D36)).rd 1 rfl))) rfl
    constructor
    ·rintro-w37 D37;rintro _ rfl _ rfl _ rfl;exact aD rfl (cJ (bj rfl rfl) (beq_eq_false_iff_ne.2 hu)) rfl
    constructor
    ·rintro-w38 D38;rintro _ rfl _ rfl;exact ar (aw (v:=.bool _) rfl rfl) rfl
    constructor
    ·rintro-w39 D39;rintro _ rfl;exact ar (aH (v:=.bool _) rfl) rfl
    constructor
    ·rintro-w40 D40;rintro _ rfl;exact bJ rfl rfl rfl
    constructor
    ·rintro-w41 D41;rintro _ rfl _ rfl;exact bJ rfl rfl rfl
    constructor
    ·rintro-w42 D42;rintro _ rfl _ rfl;exact bJ rfl rfl rfl
    constructor
    ·rintro-w43 D43;rintro _ rfl _ rfl;exact bJ rfl rfl rfl
    constructor
    ·rintro-w44 D44;rintro _ rfl _ rfl;exact bJ rfl rfl rfl
    constructor
    ·rintro-w45 D45;rintro _ rfl;exact bJ rfl rfl rfl
    constructor
    ·rintro-w46 D46;rintro _ rfl _ rfl;exact bJ rfl rfl rfl
    constructor
    ·rintro-w47 D47;rintro _ rfl;exact bJ rfl rfl rfl
    constructor
    ·rintro-w48 D48;rintro _ rfl _ rfl;exact bJ rfl rfl rfl
    constructor
    ·rintro-w49 D49;rintro _ rfl _ rfl _ rfl _ rfl;exact bJ rfl rfl rfl
    constructor
    ·rintro-w50 D50;rintro _ rfl _ rfl;exact ar (aw (v:=.bool _) rfl rfl) rfl
    constructor
    ·rintro-w51 D51;rintro _ rfl;exact ar (cy (v:=.bool _) rfl) rfl
    exact trivial
   case hend=>
    intro w52 D52;rintro _ rfl _ rfl _ rfl _ rfl v61 rfl _ rfl _ rfl _ rfl _ rfl _ rfl _ rfl _ rfl _ rfl _ rfl _ rfl _ rfl _ rfl _ rfl _ rfl _ rfl _ rfl _ rfl _ rfl _ rfl _ rfl _ rfl _ rfl _ rfl _ rfl;show St ..;refine aj (af (ak (ak (ag (mvb rfl (aj (af (br rfl (aM (af (ag (mvp rfl (ab (aa bA rfl) (ab (aq an rfl (by exact (show _=some (Value.int .i64 m.f) from ((hc3.kept hzb hm9).from_ (((ai.rfl_.next D11).next D21).next D52)).rd 1 rfl))) ?_))))))))))))));refine mvb rfl (ab (cp (l:=[(0,.const (.int .i64 2)),(2,.tmp 98),(8,.tmp 99)]) (cG _ _)) (dm (t:=100) (v:=.agg _) (v':=.agg (bM ({ zM with k:=2,t:=m.f,ok:=false }:Msg)).toArray) rfl (by rfl) ?_));have h7:=hc3.from_ (((ai.rfl_.next D11).next D21).next D52);obtain ⟨tgA,aA,OA,ocA,LA,hsA⟩:=h7.ex;obtain rfl:=hsA.nilL;refine aB ea (fu wm Z7 T g ⟨s,[]⟩ _ h7 _ _ _ _ _ hsA (Nat.zero_le _) ({ zM with k:=2,t:=m.f,ok:=false }:Msg) ⟨c6,Col.none⟩) ?_;rintro v101 w53 ⟨rfl,h6⟩;refine aj (bE (cR (ey rfl ?_)));rw [iw (by omega) hk,kv (.inr ⟨hv,hu⟩)];exact ⟨rfl,h.back hE3 (h6.from_ ai.rfl_) hzi⟩
theorem uC (w0:World) (Z:Nat→Prop) (T g:Nat) (s:Rf) (m:Msg) (w:World) (h:a_ w0 Z w T g ⟨s,[]⟩) (hF:RfF s) (ht:m.tm≤1099511627775) (hk:m.k=1) (hgt:s.term<m.tm) (hn:gg (bC s m.tm).b (bC s m.tm).t (bC s m.tm).es m.ix m.lt=true) (hv:(bC s m.tm).vote=0) :
 Rt prog 89 [.pointer (some ⟨g,0,none⟩),.agg (bM m).toArray] w (fun v w'=>v=.tuple #[]∧a_ w0 Z w' T g (cN s m)):=by
 have hFf:RfF (bC s m.tm):=hF.falls ht;refine enter (n:=169) Tryz.func89 rfl rfl rfl (ak (ag (bZ (v:=.agg _) rfl ?_)));intro b3 w1 E3 hb3 hk3;obtain ⟨wm,hwm⟩:∃ x,x=w1:=⟨_,rfl⟩
 have h3a:=h.at_ (Z':=fun k=>Z k∨k=b3) E3 (fun k hk=>by
  rcases hk with e | e
  ·exact ⟨Nat.lt_of_lt_of_le (h.zw k e) E3.size,.inl e⟩
  ·subst e;exact ⟨hk3.lt,.inr (by omega)⟩)
 obtain ⟨Z7,hZ7⟩:∃ Z7,Z7=fun k=>Z k∨k=b3:=⟨_,rfl⟩
 have h3:a_ wm Z7 w1 T g ⟨s,[]⟩:=by
  rw [hZ7,hwm];exact h3a
 have hzi:∀ k,Z k→Z7 k:=fun k hk=>by rw [hZ7];exact .inl hk
 have hzb:Z7 b3:=by rw [hZ7];exact .inr rfl
 have hE3:ai w wm:=by rw [hwm];exact E3
 have hm9:Blk wm b3 39 (bM m).toArray:=by rw [hwm];exact hk3
 have hm3:=h3.kept hzb hm9;refine aj (af (ak (ak ?_)))
 skip
 apply bK 8 [(5,eqp _),(6,eqp (.int .i64 m.tm)),(7,eqp _),(8,eqp _),(9,eqp _),(10,eqp _),(11,eqp (.int .i64 s.term)),(12,eqp _)] (by repeat first | exact cj | refine ch ?_ | refine bQ ?_) (by kernel_rfl) (by kernel_rfl) ⟨ah _,ah _,ah _,ah _,ah _,ah _,ah _,ah _,trivial⟩
 case hop=>
  constructor
  ·rintro-w3 D3;exact ar (aa bu rfl) rfl
  constructor
  ·rintro-w4 D4;rintro _ rfl;exact ar (aq an rfl (by exact (show _=some (Value.int .i64 m.tm) from (hm3.from_ (ai.rfl_.next D4)).rd 3 rfl))) rfl
  constructor
  ·rintro-w5 D5;exact ar (aH (v:=.pointer _) rfl) rfl
  constructor
  ·rintro-w6 D6;rintro _ rfl;exact ar (ay rfl) rfl
  constructor
  ·rintro-w7 D7;rintro _ rfl;exact ar (aa aO rfl) rfl
  constructor
  ·rintro-w8 D8;rintro _ rfl;exact ar (aa bt rfl) rfl
  constructor
  ·rintro-w9 D9;rintro _ rfl;exact ar (aq an rfl (by exact (show _=some (Value.int .i64 s.term) from (h3.from_ (ai.rfl_.next D9)).rd (fun _=>rfl)))) rfl
  constructor
  ·rintro-w10 D10;rintro v10_6 rfl v10_11 rfl;exact ar (cQ (bS rfl rfl) (decide_eq_true hgt)) rfl
  exact trivial
 case hend=>
  intro w11 D11;rintro _ rfl v6 rfl _ rfl _ rfl _ rfl _ rfl v11 rfl _ rfl;show St ..;refine aj (af (aL rfl (ag (mvp rfl (ab (aa bu rfl) (ab (aq an rfl (by exact (show _=some (Value.int .i64 m.tm) from (hm3.from_ (ai.rfl_.next D11)).rd 3 rfl))) ?_))))));refine aB gJ (kH wm Z7 T g ⟨s,[]⟩ _ (h3.from_ (ai.rfl_.next D11)) m.tm) ?_;rintro v16 w12 ⟨rfl,h4⟩;have hc3:=h4;obtain ⟨tgV,aV,OV,ocV,LV,hsV⟩:=hc3.ex;have heV:=(bw.rd hsV.f).e;refine aj (af (ak (ak ?_)))
  skip
  apply bK 8 [(17,eqp _),(18,eqp (.int .i64 m.tm)),(19,eqp _),(20,eqp _),(21,eqp _),(22,eqp _),(23,eqp (.int .i64 (bC s m.tm).term)),(24,eqp _)] (by repeat first | exact cj | refine ch ?_ | refine bQ ?_) (by kernel_rfl) (by kernel_rfl) ⟨ah _,ah _,ah _,ah _,ah _,ah _,ah _,ah _,trivial⟩
  case hop=>
   constructor
   ·rintro-w14 D14;exact ar (aa bu rfl) rfl
   constructor
   ·rintro-w15 D15;rintro _ rfl;exact ar (aq an rfl (by exact (show _=some (Value.int .i64 m.tm) from ((h4.kept hzb hm9).from_ (ai.rfl_.next D15)).rd 3 rfl))) rfl
   constructor
   ·rintro-w16 D16;exact ar (aH (v:=.pointer _) rfl) rfl
   constructor
   ·rintro-w17 D17;rintro _ rfl;exact ar (ay rfl) rfl
   constructor
   ·rintro-w18 D18;rintro _ rfl;exact ar (aa aO rfl) rfl
   constructor
   ·rintro-w19 D19;rintro _ rfl;exact ar (aa bt rfl) rfl
   constructor
   ·rintro-w20 D20;rintro _ rfl;exact ar (aq an rfl (by exact (show _=some (Value.int .i64 (bC s m.tm).term) from (h4.from_ (ai.rfl_.next D20)).rd (fun _=>rfl)))) rfl
   constructor
   ·rintro-w21 D21;rintro v21_18 rfl v21_23 rfl;exact ar (cJ (b_ rfl rfl) (decide_eq_false (by have:=dq s m.tm;omega))) rfl
   exact trivial
  case hend=>
   intro w22 D22;rintro _ rfl v18 rfl _ rfl _ rfl _ rfl _ rfl v23 rfl _ rfl;show St ..;refine aj (af (br rfl (aM (af (ak (ag (ab (aa cw rfl) (ab (aq an rfl (by exact (show _=some (Value.int .i64 m.k) from ((h4.kept hzb hm9).from_ (ai.rfl_.next D22)).rd 0 rfl))) ?_))))))));refine aj (af (bg (ak (ag (ab (cQ (bj rfl rfl) (beq_iff_eq.2 hk)) (asb rfl (aj (af (aL rfl (ak ?_))))))))));apply bK 29 [(57,eqp _),(58,eqp _),(59,eqp _),(60,eqp _),(61,eqp (.int .i64 (bC s m.tm).vote)),(62,eqp _),(63,eqp _),(64,eqp _),(65,eqp _),(66,eqp _),(67,eqp _),(68,eqp _),(69,eqp _),(70,eqp _),(71,eqp _),(72,eqp _),(73,eqp _),(74,eqp _),(75,eqp _),(76,eqp _),(77,eqp _),(78,eqp _),(79,eqp _),(80,eqp _),(81,eqp _),(82,eqp _),(83,eqp _),(84,eqp _),(4,eqp _)] (by repeat first | exact cj | refine ch ?_ | refine bQ ?_) (by kernel_rfl) (by kernel_rfl) ⟨ah _,ah _,ah _,ah _,ah _,ah _,ah _,ah _,ah _,ah _,ah _,ah _,ah _,ah _,ah _,ah _,ah _,ah _,ah _,ah _,ah _,ah _,ah _,ah _,ah _,ah _,ah _,ah _,ah _,trivial⟩
   case hop=>
    constructor
    ·rintro-w24 D24;exact ar (aH (v:=.pointer _) rfl) rfl
    constructor
    ·rintro-w25 D25;rintro _ rfl;exact ar (ay rfl) rfl
    constructor
    ·rintro-w26 D26;rintro _ rfl;exact ar (aa aO rfl) rfl
    constructor
    ·rintro-w27 D27;rintro _ rfl;exact ar (aa bY rfl) rfl
    constructor
    ·rintro-w28 D28;rintro _ rfl;exact ar (aq an rfl (by exact (show _=some (Value.int .i64 (bC s m.tm).vote) from (hc3.from_ ((ai.rfl_.next D22).next D28)).rd (fun _=>rfl)))) rfl
    constructor
    ·rintro-w29 D29;rintro v29_61 rfl;exact ar (cQ (bj rfl rfl) (beq_iff_eq.2 hv)) rfl
    constructor
    ·rintro-w30 D30;rintro _ rfl;exact ar (aH (v:=.bool _) rfl) rfl
    constructor
    ·rintro-w31 D31;rintro _ rfl;exact bJ rfl rfl rfl
    constructor
    ·rintro-w32 D32;rintro _ rfl _ rfl;exact bJ rfl rfl rfl
    constructor
    ·rintro-w33 D33;rintro _ rfl _ rfl;exact bJ rfl rfl rfl
    constructor
    ·rintro-w34 D34;rintro _ rfl _ rfl;exact bJ rfl rfl rfl
    constructor
    ·rintro-w35 D35;rintro _ rfl _ rfl;exact bJ rfl rfl rfl
    constructor
    ·rintro-w36 D36;rintro _ rfl;exact bJ rfl rfl rfl
    constructor
    ·rintro-w37 D37;rintro _ rfl _ rfl;exact bJ rfl rfl rfl
    constructor
    ·rintro-w38 D38;rintro _ rfl _ rfl _ rfl;exact bJ rfl rfl rfl
    constructor
    ·rintro-w39 D39;rintro _ rfl _ rfl;exact ar (aJ (v:=.bool _) rfl rfl) rfl
    constructor
    ·rintro-w40 D40;rintro _ rfl;exact ar (aH (v:=.bool _) rfl) rfl
    constructor
    ·rintro-w41 D41;rintro _ rfl;exact aD rfl (aH (v:=.pointer _) rfl) rfl
    constructor
    ·rintro-w42 D42;rintro _ rfl _ rfl;exact aD rfl (ay rfl) rfl
    constructor
    ·rintro-w43 D43;rintro _ rfl _ rfl;exact aD rfl (aa aO rfl) rfl
    constructor
    ·rintro-w44 D44;rintro _ rfl _ rfl;exact aD rfl (aa bq rfl) rfl
    constructor
    ·rintro-w45 D45;rintro _ rfl _ rfl;exact aD rfl (aG (cs:=[.int .i64 (bC s m.tm).b,.int .i64 (bC s m.tm).t,.slice aV.E (bC s m.tm).es.length aV.Ec]) bB bd rfl (fB (hsV.b.from_ ((ai.rfl_.next D22).next D45)))) rfl
    constructor
    ·rintro-w46 D46;rintro _ rfl;exact aD rfl (aa bR rfl) rfl
    constructor
    ·rintro-w47 D47;rintro _ rfl _ rfl;exact aD rfl (aq an rfl (by exact (show _=some (Value.int .i64 m.ix) from ((hc3.kept hzb hm9).from_ ((ai.rfl_.next D22).next D47)).rd 4 rfl))) rfl
    constructor
    ·rintro-w48 D48;rintro _ rfl;exact aD rfl (aa ck rfl) rfl
    constructor
    ·rintro-w49 D49;rintro _ rfl _ rfl;exact aD rfl (aq an rfl (by exact (show _=some (Value.int .i64 m.lt) from ((hc3.kept hzb hm9).from_ ((ai.rfl_.next D22).next D49)).rd 5 rfl))) rfl
    constructor
    ·rintro-w50 D50;rintro _ rfl _ rfl _ rfl _ rfl;refine gx rfl fh ((gB (bC s m.tm) m aV.E aV.Ec _ (heV.from_ ((ai.rfl_.next D22).next D50)) hn).mono ?_);rintro v _ ⟨rfl,E50'⟩;exact ⟨E50',rfl⟩
    constructor
    ·rintro-w51 D51;rintro _ rfl _ rfl;exact ar (aJ (v:=.bool _) rfl rfl) rfl
    constructor
    ·rintro-w52 D52;rintro _ rfl;exact ar (cy (v:=.bool _) rfl) rfl
    exact trivial
   case hend=>
    intro w53 D53;rintro _ rfl _ rfl _ rfl _ rfl v61 rfl _ rfl _ rfl _ rfl _ rfl _ rfl _ rfl _ rfl _ rfl _ rfl _ rfl _ rfl _ rfl _ rfl _ rfl _ rfl _ rfl _ rfl _ rfl _ rfl _ rfl _ rfl _ rfl _ rfl _ rfl;show St ..;refine aj (af (ak (ak (ag (mvb rfl (aj (af (aL rfl (ak (ag (mvp rfl (ab (aa bA rfl) (ab (aq an rfl (by exact (show _=some (Value.int .i64 m.f) from ((hc3.kept hzb hm9).from_ ((ai.rfl_.next D22).next D53)).rd 1 rfl))) ?_)))))))))))));refine ab (ay rfl) (ab (aa aO rfl) (ab (aa bY rfl) (fH (s':=({ (bC s m.tm) with vote:=m.f }:Rf)) aS rfl rfl rfl (hc3.from_ ((ai.rfl_.next D22).next D53)) (fun _=>⟨by decide,rfl⟩) ⟨rfl,rfl,rfl,rfl,rfl,rfl⟩ ?_)));intro w54 h9a;refine aj (af (ag (mvp rfl (ab (ay rfl) (ab (aa aO rfl) (ab (aa c_ rfl) (fH (s':=({ (bC s m.tm) with vote:=m.f,elapsed:=0 }:Rf)) aS rfl rfl rfl (h9a.from_ ai.rfl_) (fun _=>⟨by decide,rfl⟩) ⟨rfl,rfl,rfl,rfl,rfl,rfl⟩ ?_)))))));intro w55 h9b;refine aj (af (ag (mvp rfl (ab (aa bA rfl) (ab (aq an rfl (by exact (show _=some (Value.int .i64 m.f) from ((h9b.kept hzb hm9).from_ ai.rfl_).rd 1 rfl))) ?_)))));refine mvb rfl (ab (cp (l:=[(0,.const (.int .i64 2)),(2,.tmp 98),(8,.tmp 99)]) (cG _ _)) (dm (t:=100) (v:=.agg _) (v':=.agg (bM ({ zM with k:=2,t:=m.f,ok:=true }:Msg)).toArray) rfl (by rfl) ?_));have h7:=h9b.from_ ai.rfl_;obtain ⟨tgA,aA,OA,ocA,LA,hsA⟩:=h7.ex;obtain rfl:=hsA.nilL;refine aB ea (fu wm Z7 T g ⟨({ (bC s m.tm) with vote:=m.f,elapsed:=0 }:Rf),[]⟩ _ h7 _ _ _ _ _ hsA (Nat.zero_le _) ({ zM with k:=2,t:=m.f,ok:=true }:Msg) ⟨c6,Col.none⟩) ?_;rintro v101 w56 ⟨rfl,h6⟩;refine aj (bE (cR (ey rfl ?_)));rw [jH hgt,iw (by have:=dq s m.tm;omega) hk,mi hn (.inl hv)];exact ⟨rfl,h.back hE3 (h6.from_ ai.rfl_) hzi⟩
theorem uB (w0:World) (Z:Nat→Prop) (T g:Nat) (s:Rf) (m:Msg) (w:World) (h:a_ w0 Z w T g ⟨s,[]⟩) (hF:RfF s) (ht:m.tm≤1099511627775) (hk:m.k=1) (hgt:s.term<m.tm) (hn:gg (bC s m.tm).b (bC s m.tm).t (bC s m.tm).es m.ix m.lt=false) (hv:(bC s m.tm).vote=0) :
 Rt prog 89 [.pointer (some ⟨g,0,none⟩),.agg (bM m).toArray] w (fun v w'=>v=.tuple #[]∧a_ w0 Z w' T g (cN s m)):=by
 have hFf:RfF (bC s m.tm):=hF.falls ht;refine enter (n:=169) Tryz.func89 rfl rfl rfl (ak (ag (bZ (v:=.agg _) rfl ?_)));intro b3 w1 E3 hb3 hk3;obtain ⟨wm,hwm⟩:∃ x,x=w1:=⟨_,rfl⟩
 have h3a:=h.at_ (Z':=fun k=>Z k∨k=b3) E3 (fun k hk=>by
  rcases hk with e | e
  ·exact ⟨Nat.lt_of_lt_of_le (h.zw k e) E3.size,.inl e⟩
  ·subst e;exact ⟨hk3.lt,.inr (by omega)⟩)
 obtain ⟨Z7,hZ7⟩:∃ Z7,Z7=fun k=>Z k∨k=b3:=⟨_,rfl⟩
 have h3:a_ wm Z7 w1 T g ⟨s,[]⟩:=by
  rw [hZ7,hwm];exact h3a
 have hzi:∀ k,Z k→Z7 k:=fun k hk=>by rw [hZ7];exact .inl hk
 have hzb:Z7 b3:=by rw [hZ7];exact .inr rfl
 have hE3:ai w wm:=by rw [hwm];exact E3
 have hm9:Blk wm b3 39 (bM m).toArray:=by rw [hwm];exact hk3
 have hm3:=h3.kept hzb hm9;refine aj (af (ak (ak ?_)))
 skip
 apply bK 8 [(5,eqp _),(6,eqp (.int .i64 m.tm)),(7,eqp _),(8,eqp _),(9,eqp _),(10,eqp _),(11,eqp (.int .i64 s.term)),(12,eqp _)] (by repeat first | exact cj | refine ch ?_ | refine bQ ?_) (by kernel_rfl) (by kernel_rfl) ⟨ah _,ah _,ah _,ah _,ah _,ah _,ah _,ah _,trivial⟩
 case hop=>
  constructor
  ·rintro-w3 D3;exact ar (aa bu rfl) rfl
  constructor
  ·rintro-w4 D4;rintro _ rfl;exact ar (aq an rfl (by exact (show _=some (Value.int .i64 m.tm) from (hm3.from_ (ai.rfl_.next D4)).rd 3 rfl))) rfl
  constructor
  ·rintro-w5 D5;exact ar (aH (v:=.pointer _) rfl) rfl
  constructor
  ·rintro-w6 D6;rintro _ rfl;exact ar (ay rfl) rfl
  constructor
  ·rintro-w7 D7;rintro _ rfl;exact ar (aa aO rfl) rfl
  constructor
  ·rintro-w8 D8;rintro _ rfl;exact ar (aa bt rfl) rfl
  constructor
  ·rintro-w9 D9;rintro _ rfl;exact ar (aq an rfl (by exact (show _=some (Value.int .i64 s.term) from (h3.from_ (ai.rfl_.next D9)).rd (fun _=>rfl)))) rfl
  constructor
  ·rintro-w10 D10;rintro v10_6 rfl v10_11 rfl;exact ar (cQ (bS rfl rfl) (decide_eq_true hgt)) rfl
  exact trivial
 case hend=>
  intro w11 D11;rintro _ rfl v6 rfl _ rfl _ rfl _ rfl _ rfl v11 rfl _ rfl;show St ..;refine aj (af (aL rfl (ag (mvp rfl (ab (aa bu rfl) (ab (aq an rfl (by exact (show _=some (Value.int .i64 m.tm) from (hm3.from_ (ai.rfl_.next D11)).rd 3 rfl))) ?_))))));refine aB gJ (kH wm Z7 T g ⟨s,[]⟩ _ (h3.from_ (ai.rfl_.next D11)) m.tm) ?_;rintro v16 w12 ⟨rfl,h4⟩;have hc3:=h4;obtain ⟨tgV,aV,OV,ocV,LV,hsV⟩:=hc3.ex;have heV:=(bw.rd hsV.f).e;refine aj (af (ak (ak ?_)))
  skip
  apply bK 8 [(17,eqp _),(18,eqp (.int .i64 m.tm)),(19,eqp _),(20,eqp _),(21,eqp _),(22,eqp _),(23,eqp (.int .i64 (bC s m.tm).term)),(24,eqp _)] (by repeat first | exact cj | refine ch ?_ | refine bQ ?_) (by kernel_rfl) (by kernel_rfl) ⟨ah _,ah _,ah _,ah _,ah _,ah _,ah _,ah _,trivial⟩
  case hop=>
   constructor
   ·rintro-w14 D14;exact ar (aa bu rfl) rfl
   constructor
   ·rintro-w15 D15;rintro _ rfl;exact ar (aq an rfl (by exact (show _=some (Value.int .i64 m.tm) from ((h4.kept hzb hm9).from_ (ai.rfl_.next D15)).rd 3 rfl))) rfl
   constructor
   ·rintro-w16 D16;exact ar (aH (v:=.pointer _) rfl) rfl
   constructor
   ·rintro-w17 D17;rintro _ rfl;exact ar (ay rfl) rfl
   constructor
   ·rintro-w18 D18;rintro _ rfl;exact ar (aa aO rfl) rfl
   constructor
   ·rintro-w19 D19;rintro _ rfl;exact ar (aa bt rfl) rfl
   constructor
   ·rintro-w20 D20;rintro _ rfl;exact ar (aq an rfl (by exact (show _=some (Value.int .i64 (bC s m.tm).term) from (h4.from_ (ai.rfl_.next D20)).rd (fun _=>rfl)))) rfl
   constructor
   ·rintro-w21 D21;rintro v21_18 rfl v21_23 rfl;exact ar (cJ (b_ rfl rfl) (decide_eq_false (by have:=dq s m.tm;omega))) rfl
   exact trivial
  case hend=>
   intro w22 D22;rintro _ rfl v18 rfl _ rfl _ rfl _ rfl _ rfl v23 rfl _ rfl;show St ..;refine aj (af (br rfl (aM (af (ak (ag (ab (aa cw rfl) (ab (aq an rfl (by exact (show _=some (Value.int .i64 m.k) from ((h4.kept hzb hm9).from_ (ai.rfl_.next D22)).rd 0 rfl))) ?_))))))));refine aj (af (bg (ak (ag (ab (cQ (bj rfl rfl) (beq_iff_eq.2 hk)) (asb rfl (aj (af (aL rfl (ak ?_))))))))));apply bK 29 [(57,eqp _),(58,eqp _),(59,eqp _),(60,eqp _),(61,eqp (.int .i64 (bC s m.tm).vote)),(62,eqp _),(63,eqp _),(64,eqp _),(65,eqp _),(66,eqp _),(67,eqp _),(68,eqp _),(69,eqp _),(70,eqp _),(71,eqp _),(72,eqp _),(73,eqp _),(74,eqp _),(75,eqp _),(76,eqp _),(77,eqp _),(78,eqp _),(79,eqp _),(80,eqp _),(81,eqp _),(82,eqp _),(83,eqp _),(84,eqp _),(4,eqp _)] (by repeat first | exact cj | refine ch ?_ | refine bQ ?_) (by kernel_rfl) (by kernel_rfl) ⟨ah _,ah _,ah _,ah _,ah _,ah _,ah _,ah _,ah _,ah _,ah _,ah _,ah _,ah _,ah _,ah _,ah _,ah _,ah _,ah _,ah _,ah _,ah _,ah _,ah _,ah _,ah _,ah _,ah _,trivial⟩
   case hop=>
    constructor
    ·rintro-w24 D24;exact ar (aH (v:=.pointer _) rfl) rfl
    constructor
    ·rintro-w25 D25;rintro _ rfl;exact ar (ay rfl) rfl
    constructor
    ·rintro-w26 D26;rintro _ rfl;exact ar (aa aO rfl) rfl
    constructor
    ·rintro-w27 D27;rintro _ rfl;exact ar (aa bY rfl) rfl
    constructor
    ·rintro-w28 D28;rintro _ rfl;exact ar (aq an rfl (by exact (show _=some (Value.int .i64 (bC s m.tm).vote) from (hc3.from_ ((ai.rfl_.next D22).next D28)).rd (fun _=>rfl)))) rfl
    constructor
    ·rintro-w29 D29;rintro v29_61 rfl;exact ar (cQ (bj rfl rfl) (beq_iff_eq.2 hv)) rfl
    constructor
    ·rintro-w30 D30;rintro _ rfl;exact ar (aH (v:=.bool _) rfl) rfl
    constructor
    ·rintro-w31 D31;rintro _ rfl;exact bJ rfl rfl rfl
    constructor
    ·rintro-w32 D32;rintro _ rfl _ rfl;exact bJ rfl rfl rfl
    constructor
    ·rintro-w33 D33;rintro _ rfl _ rfl;exact bJ rfl rfl rfl
    constructor
    ·rintro-w34 D34;rintro _ rfl _ rfl;exact bJ rfl rfl rfl
    constructor
    ·rintro-w35 D35;rintro _ rfl _ rfl;exact bJ rfl rfl rfl
    constructor
    ·rintro-w36 D36;rintro _ rfl;exact bJ rfl rfl rfl
    constructor
    ·rintro-w37 D37;rintro _ rfl _ rfl;exact bJ rfl rfl rfl
    constructor
    ·rintro-w38 D38;rintro _ rfl _ rfl _ rfl;exact bJ rfl rfl rfl
    constructor
    ·rintro-w39 D39;rintro _ rfl _ rfl;exact ar (aJ (v:=.bool _) rfl rfl) rfl
    constructor
    ·rintro-w40 D40;rintro _ rfl;exact ar (aH (v:=.bool _) rfl) rfl
    constructor
    ·rintro-w41 D41;rintro _ rfl;exact aD rfl (aH (v:=.pointer _) rfl) rfl
    constructor
    ·rintro-w42 D42;rintro _ rfl _ rfl;exact aD rfl (ay rfl) rfl
    constructor
    ·rintro-w43 D43;rintro _ rfl _ rfl;exact aD rfl (aa aO rfl) rfl
    constructor
    ·rintro-w44 D44;rintro _ rfl _ rfl;exact aD rfl (aa bq rfl) rfl
    constructor
    ·rintro-w45 D45;rintro _ rfl _ rfl;exact aD rfl (aG (cs:=[.int .i64 (bC s m.tm).b,.int .i64 (bC s m.tm).t,.slice aV.E (bC s m.tm).es.length aV.Ec]) bB bd rfl (fB (hsV.b.from_ ((ai.rfl_.next D22).next D45)))) rfl
    constructor
    ·rintro-w46 D46;rintro _ rfl;exact aD rfl (aa bR rfl) rfl
    constructor
    ·rintro-w47 D47;rintro _ rfl _ rfl;exact aD rfl (aq an rfl (by exact (show _=some (Value.int .i64 m.ix) from ((hc3.kept hzb hm9).from_ ((ai.rfl_.next D22).next D47)).rd 4 rfl))) rfl
    constructor
    ·rintro-w48 D48;rintro _ rfl;exact aD rfl (aa ck rfl) rfl
    constructor
    ·rintro-w49 D49;rintro _ rfl _ rfl;exact aD rfl (aq an rfl (by exact (show _=some (Value.int .i64 m.lt) from ((hc3.kept hzb hm9).from_ ((ai.rfl_.next D22).next D49)).rd 5 rfl))) rfl
    constructor
    ·rintro-w50 D50;rintro _ rfl _ rfl _ rfl _ rfl;refine gx rfl fh ((gB (bC s m.tm) m aV.E aV.Ec _ (heV.from_ ((ai.rfl_.next D22).next D50)) hn).mono ?_);rintro v _ ⟨rfl,E50'⟩;exact ⟨E50',rfl⟩
    constructor
    ·rintro-w51 D51;rintro _ rfl _ rfl;exact ar (aJ (v:=.bool _) rfl rfl) rfl
    constructor
    ·rintro-w52 D52;rintro _ rfl;exact ar (cy (v:=.bool _) rfl) rfl
    exact trivial
   case hend=>
    intro w53 D53;rintro _ rfl _ rfl _ rfl _ rfl v61 rfl _ rfl _ rfl _ rfl _ rfl _ rfl _ rfl _ rfl _ rfl _ rfl _ rfl _ rfl _ rfl _ rfl _ rfl _ rfl _ rfl _ rfl _ rfl _ rfl _ rfl _ rfl _ rfl _ rfl _ rfl;show St ..;refine aj (af (ak (ak (ag (mvb rfl (aj (af (br rfl (aM (af (ag (mvp rfl (ab (aa bA rfl) (ab (aq an rfl (by exact (show _=some (Value.int .i64 m.f) from ((hc3.kept hzb hm9).from_ ((ai.rfl_.next D22).next D53)).rd 1 rfl))) ?_))))))))))))));refine mvb rfl (ab (cp (l:=[(0,.const (.int .i64 2)),(2,.tmp 98),(8,.tmp 99)]) (cG _ _)) (dm (t:=100) (v:=.agg _) (v':=.agg (bM ({ zM with k:=2,t:=m.f,ok:=false }:Msg)).toArray) rfl (by rfl) ?_));have h7:=hc3.from_ ((ai.rfl_.next D22).next D53);obtain ⟨tgA,aA,OA,ocA,LA,hsA⟩:=h7.ex;obtain rfl:=hsA.nilL;refine aB ea (fu wm Z7 T g ⟨(bC s m.tm),[]⟩ _ h7 _ _ _ _ _ hsA (Nat.zero_le _) ({ zM with k:=2,t:=m.f,ok:=false }:Msg) ⟨c6,Col.none⟩) ?_;rintro v101 w54 ⟨rfl,h6⟩;refine aj (bE (cR (ey rfl ?_)));rw [jH hgt,iw (by have:=dq s m.tm;omega) hk,kv (.inl hn)];exact ⟨rfl,h.back hE3 (h6.from_ ai.rfl_) hzi⟩
theorem uA (w0:World) (Z:Nat→Prop) (T g:Nat) (s:Rf) (m:Msg) (w:World) (h:a_ w0 Z w T g ⟨s,[]⟩) (hF:RfF s) (ht:m.tm≤1099511627775) (hk:m.k=1) (hgt:s.term<m.tm) (hn:gg (bC s m.tm).b (bC s m.tm).t (bC s m.tm).es m.ix m.lt=true) (hv:(bC s m.tm).vote≠0) (hu:(bC s m.tm).vote=m.f) :
 Rt prog 89 [.pointer (some ⟨g,0,none⟩),.agg (bM m).toArray] w (fun v w'=>v=.tuple #[]∧a_ w0 Z w' T g (cN s m)):=by
 have hFf:RfF (bC s m.tm):=hF.falls ht;refine enter (n:=169) Tryz.func89 rfl rfl rfl (ak (ag (bZ (v:=.agg _) rfl ?_)));intro b3 w1 E3 hb3 hk3;obtain ⟨wm,hwm⟩:∃ x,x=w1:=⟨_,rfl⟩
 have h3a:=h.at_ (Z':=fun k=>Z k∨k=b3) E3 (fun k hk=>by
  rcases hk with e | e
  ·exact ⟨Nat.lt_of_lt_of_le (h.zw k e) E3.size,.inl e⟩
  ·subst e;exact ⟨hk3.lt,.inr (by omega)⟩)
 obtain ⟨Z7,hZ7⟩:∃ Z7,Z7=fun k=>Z k∨k=b3:=⟨_,rfl⟩
 have h3:a_ wm Z7 w1 T g ⟨s,[]⟩:=by
  rw [hZ7,hwm];exact h3a
 have hzi:∀ k,Z k→Z7 k:=fun k hk=>by rw [hZ7];exact .inl hk
 have hzb:Z7 b3:=by rw [hZ7];exact .inr rfl
 have hE3:ai w wm:=by rw [hwm];exact E3
 have hm9:Blk wm b3 39 (bM m).toArray:=by rw [hwm];exact hk3
 have hm3:=h3.kept hzb hm9;refine aj (af (ak (ak ?_)))
 skip
 apply bK 8 [(5,eqp _),(6,eqp (.int .i64 m.tm)),(7,eqp _),(8,eqp _),(9,eqp _),(10,eqp _),(11,eqp (.int .i64 s.term)),(12,eqp _)] (by repeat first | exact cj | refine ch ?_ | refine bQ ?_) (by kernel_rfl) (by kernel_rfl) ⟨ah _,ah _,ah _,ah _,ah _,ah _,ah _,ah _,trivial⟩
 case hop=>
  constructor
  ·rintro-w3 D3;exact ar (aa bu rfl) rfl
  constructor
  ·rintro-w4 D4;rintro _ rfl;exact ar (aq an rfl (by exact (show _=some (Value.int .i64 m.tm) from (hm3.from_ (ai.rfl_.next D4)).rd 3 rfl))) rfl
  constructor
  ·rintro-w5 D5;exact ar (aH (v:=.pointer _) rfl) rfl
  constructor
  ·rintro-w6 D6;rintro _ rfl;exact ar (ay rfl) rfl
  constructor
  ·rintro-w7 D7;rintro _ rfl;exact ar (aa aO rfl) rfl
  constructor
  ·rintro-w8 D8;rintro _ rfl;exact ar (aa bt rfl) rfl
  constructor
  ·rintro-w9 D9;rintro _ rfl;exact ar (aq an rfl (by exact (show _=some (Value.int .i64 s.term) from (h3.from_ (ai.rfl_.next D9)).rd (fun _=>rfl)))) rfl
  constructor
  ·rintro-w10 D10;rintro v10_6 rfl v10_11 rfl;exact ar (cQ (bS rfl rfl) (decide_eq_true hgt)) rfl
  exact trivial
 case hend=>
  intro w11 D11;rintro _ rfl v6 rfl _ rfl _ rfl _ rfl _ rfl v11 rfl _ rfl;show St ..;refine aj (af (aL rfl (ag (mvp rfl (ab (aa bu rfl) (ab (aq an rfl (by exact (show _=some (Value.int .i64 m.tm) from (hm3.from_ (ai.rfl_.next D11)).rd 3 rfl))) ?_))))));refine aB gJ (kH wm Z7 T g ⟨s,[]⟩ _ (h3.from_ (ai.rfl_.next D11)) m.tm) ?_;rintro v16 w12 ⟨rfl,h4⟩;have hc3:=h4;obtain ⟨tgV,aV,OV,ocV,LV,hsV⟩:=hc3.ex;have heV:=(bw.rd hsV.f).e;refine aj (af (ak (ak ?_)))
  skip
  apply bK 8 [(17,eqp _),(18,eqp (.int .i64 m.tm)),(19,eqp _),(20,eqp _),(21,eqp _),(22,eqp _),(23,eqp (.int .i64 (bC s m.tm).term)),(24,eqp _)] (by repeat first | exact cj | refine ch ?_ | refine bQ ?_) (by kernel_rfl) (by kernel_rfl) ⟨ah _,ah _,ah _,ah _,ah _,ah _,ah _,ah _,trivial⟩
  case hop=>
   constructor
   ·rintro-w14 D14;exact ar (aa bu rfl) rfl
   constructor
   ·rintro-w15 D15;rintro _ rfl;exact ar (aq an rfl (by exact (show _=some (Value.int .i64 m.tm) from ((h4.kept hzb hm9).from_ (ai.rfl_.next D15)).rd 3 rfl))) rfl
   constructor
   ·rintro-w16 D16;exact ar (aH (v:=.pointer _) rfl) rfl
   constructor
   ·rintro-w17 D17;rintro _ rfl;exact ar (ay rfl) rfl
   constructor
   ·rintro-w18 D18;rintro _ rfl;exact ar (aa aO rfl) rfl
   constructor
   ·rintro-w19 D19;rintro _ rfl;exact ar (aa bt rfl) rfl
   constructor
   ·rintro-w20 D20;rintro _ rfl;exact ar (aq an rfl (by exact (show _=some (Value.int .i64 (bC s m.tm).term) from (h4.from_ (ai.rfl_.next D20)).rd (fun _=>rfl)))) rfl
   constructor
   ·rintro-w21 D21;rintro v21_18 rfl v21_23 rfl;exact ar (cJ (b_ rfl rfl) (decide_eq_false (by have:=dq s m.tm;omega))) rfl
   exact trivial
  case hend=>
   intro w22 D22;rintro _ rfl v18 rfl _ rfl _ rfl _ rfl _ rfl v23 rfl _ rfl;show St ..;refine aj (af (br rfl (aM (af (ak (ag (ab (aa cw rfl) (ab (aq an rfl (by exact (show _=some (Value.int .i64 m.k) from ((h4.kept hzb hm9).from_ (ai.rfl_.next D22)).rd 0 rfl))) ?_))))))));refine aj (af (bg (ak (ag (ab (cQ (bj rfl rfl) (beq_iff_eq.2 hk)) (asb rfl (aj (af (aL rfl (ak ?_))))))))));apply bK 29 [(57,eqp _),(58,eqp _),(59,eqp _),(60,eqp _),(61,eqp (.int .i64 (bC s m.tm).vote)),(62,eqp _),(63,eqp _),(64,eqp _),(65,eqp _),(66,eqp _),(67,eqp _),(68,eqp _),(69,eqp _),(70,eqp _),(71,eqp _),(72,eqp _),(73,eqp _),(74,eqp _),(75,eqp _),(76,eqp _),(77,eqp _),(78,eqp _),(79,eqp _),(80,eqp _),(81,eqp _),(82,eqp _),(83,eqp _),(84,eqp _),(4,eqp _)] (by repeat first | exact cj | refine ch ?_ | refine bQ ?_) (by kernel_rfl) (by kernel_rfl) ⟨ah _,ah _,ah _,ah _,ah _,ah _,ah _,ah _,ah _,ah _,ah _,ah _,ah _,ah _,ah _,ah _,ah _,ah _,ah _,ah _,ah _,ah _,ah _,ah _,ah _,ah _,ah _,ah _,ah _,trivial⟩
   case hop=>
    constructor
    ·rintro-w24 D24;exact ar (aH (v:=.pointer _) rfl) rfl
    constructor
    ·rintro-w25 D25;rintro _ rfl;exact ar (ay rfl) rfl
    constructor
    ·rintro-w26 D26;rintro _ rfl;exact ar (aa aO rfl) rfl
    constructor
    ·rintro-w27 D27;rintro _ rfl;exact ar (aa bY rfl) rfl
    constructor
    ·rintro-w28 D28;rintro _ rfl;exact ar (aq an rfl (by exact (show _=some (Value.int .i64 (bC s m.tm).vote) from (hc3.from_ ((ai.rfl_.next D22).next D28)).rd (fun _=>rfl)))) rfl
    constructor
    ·rintro-w29 D29;rintro v29_61 rfl;exact ar (cJ (bj rfl rfl) (beq_eq_false_iff_ne.2 hv)) rfl
    constructor
    ·rintro-w30 D30;rintro _ rfl;exact ar (aH (v:=.bool _) rfl) rfl
    constructor
    ·rintro-w31 D31;rintro _ rfl;exact aD rfl (aH (v:=.pointer _) rfl) rfl
    constructor
    ·rintro-w32 D32;rintro _ rfl _ rfl;exact aD rfl (ay rfl) rfl
    constructor
    ·rintro-w33 D33;rintro _ rfl _ rfl;exact aD rfl (aa aO rfl) rfl
    constructor
    ·rintro-w34 D34;rintro _ rfl _ rfl;exact aD rfl (aa bY rfl) rfl
    constructor
    ·rintro-w35 D35;rintro _ rfl _ rfl;exact aD rfl (aq an rfl (by exact (show _=some (Value.int .i64 (bC s m.tm).vote) from (hc3.from_ ((ai.rfl_.next D22).next D35)).rd (fun _=>rfl)))) rfl
    constructor
    ·rintro-w36 D36;rintro _ rfl;exact aD rfl (aa bA rfl) rfl
    constructor
    ·rintro-w37 D37;rintro _ rfl _ rfl;exact aD rfl (aq an rfl (by exact (show _=some (Value.int .i64 m.f) from ((hc3.kept hzb hm9).from_ ((ai.rfl_.next D22).next D37)).rd 1 rfl))) rfl
    constructor
    ·rintro-w38 D38;rintro _ rfl _ rfl _ rfl;exact aD rfl (cQ (bj rfl rfl) (beq_iff_eq.2 hu)) rfl
    constructor
    ·rintro-w39 D39;rintro _ rfl _ rfl;exact ar (aw (v:=.bool _) rfl rfl) rfl
    constructor
    ·rintro-w40 D40;rintro _ rfl;exact ar (aH (v:=.bool _) rfl) rfl
    constructor
    ·rintro-w41 D41;rintro _ rfl;exact aD rfl (aH (v:=.pointer _) rfl) rfl
    constructor
    ·rintro-w42 D42;rintro _ rfl _ rfl;exact aD rfl (ay rfl) rfl
    constructor
    ·rintro-w43 D43;rintro _ rfl _ rfl;exact aD rfl (aa aO rfl) rfl
    constructor
    ·rintro-w44 D44;rintro _ rfl _ rfl;exact aD rfl (aa bq rfl) rfl
    constructor
    ·rintro-w45 D45;rintro _ rfl _ rfl;exact aD rfl (aG (cs:=[.int .i64 (bC s m.tm).b,.int .i64 (bC s m.tm).t,.slice aV.E (bC s m.tm).es.length aV.Ec]) bB bd rfl (fB (hsV.b.from_ ((ai.rfl_.next D22).next D45)))) rfl
    constructor
    ·rintro-w46 D46;rintro _ rfl;exact aD rfl (aa bR rfl) rfl
    constructor
    ·rintro-w47 D47;rintro _ rfl _ rfl;exact aD rfl (aq an rfl (by exact (show _=some (Value.int .i64 m.ix) from ((hc3.kept hzb hm9).from_ ((ai.rfl_.next D22).next D47)).rd 4 rfl))) rfl
    constructor
    ·rintro-w48 D48;rintro _ rfl;exact aD rfl (aa ck rfl) rfl
    constructor
    ·rintro-w49 D49;rintro _ rfl _ rfl;exact aD rfl (aq an rfl (by exact (show _=some (Value.int .i64 m.lt) from ((hc3.kept hzb hm9).from_ ((ai.rfl_.next D22).next D49)).rd 5 rfl))) rfl
    constructor
    ·rintro-w50 D50;rintro _ rfl _ rfl _ rfl _ rfl;refine gx rfl fh ((gB (bC s m.tm) m aV.E aV.Ec _ (heV.from_ ((ai.rfl_.next D22).next D50)) hn).mono ?_);rintro v _ ⟨rfl,E50'⟩;exact ⟨E50',rfl⟩
    constructor
    ·rintro-w51 D51;rintro _ rfl _ rfl;exact ar (aJ (v:=.bool _) rfl rfl) rfl
    constructor
    ·rintro-w52 D52;rintro _ rfl;exact ar (cy (v:=.bool _) rfl) rfl
    exact trivial
   case hend=>
    intro w53 D53;rintro _ rfl _ rfl _ rfl _ rfl v61 rfl _ rfl _ rfl _ rfl _ rfl _ rfl _ rfl _ rfl _ rfl _ rfl _ rfl _ rfl _ rfl _ rfl _ rfl _ rfl _ rfl _ rfl _ rfl _ rfl _ rfl _ rfl _ rfl _ rfl _ rfl;show St ..;refine aj (af (ak (ak (ag (mvb rfl (aj (af (aL rfl (ak (ag (mvp rfl (ab (aa bA rfl) (ab (aq an rfl (by exact (show _=some (Value.int .i64 m.f) from ((hc3.kept hzb hm9).from_ ((ai.rfl_.next D22).next D53)).rd 1 rfl))) ?_)))))))))))));refine ab (ay rfl) (ab (aa aO rfl) (ab (aa bY rfl) (fH (s':=({ (bC s m.tm) with vote:=m.f }:Rf)) aS rfl rfl rfl (hc3.from_ ((ai.rfl_.next D22).next D53)) (fun _=>⟨by decide,rfl⟩) ⟨rfl,rfl,rfl,rfl,rfl,rfl⟩ ?_)));intro w54 h9a;refine aj (af (ag (mvp rfl (ab (ay rfl) (ab (aa aO rfl) (ab (aa c_ rfl) (fH (s':=({ (bC s m.tm) with vote:=m.f,elapsed:=0 }:Rf)) aS rfl rfl rfl (h9a.from_ ai.rfl_) (fun _=>⟨by decide,rfl⟩) ⟨rfl,rfl,rfl,rfl,rfl,rfl⟩ ?_)))))));intro w55 h9b;refine aj (af (ag (mvp rfl (ab (aa bA rfl) (ab (aq an rfl (by exact (show _=some (Value.int .i64 m.f) from ((h9b.kept hzb hm9).from_ ai.rfl_).rd 1 rfl))) ?_)))));refine mvb rfl (ab (cp (l:=[(0,.const (.int .i64 2)),(2,.tmp 98),(8,.tmp 99)]) (cG _ _)) (dm (t:=100) (v:=.agg _) (v':=.agg (bM ({ zM with k:=2,t:=m.f,ok:=true }:Msg)).toArray) rfl (by rfl) ?_));have h7:=h9b.from_ ai.rfl_;obtain ⟨tgA,aA,OA,ocA,LA,hsA⟩:=h7.ex;obtain rfl:=hsA.nilL;refine aB ea (fu wm Z7 T g ⟨({ (bC s m.tm) with vote:=m.f,elapsed:=0 }:Rf),[]⟩ _ h7 _ _ _ _ _ hsA (Nat.zero_le _) ({ zM with k:=2,t:=m.f,ok:=true }:Msg) ⟨c6,Col.none⟩) ?_;rintro v101 w56 ⟨rfl,h6⟩;refine aj (bE (cR (ey rfl ?_)));rw [jH hgt,iw (by have:=dq s m.tm;omega) hk,mi hn (.inr hu)];exact ⟨rfl,h.back hE3 (h6.from_ ai.rfl_) hzi⟩
theorem uz (w0:World) (Z:Nat→Prop) (T g:Nat) (s:Rf) (m:Msg) (w:World) (h:a_ w0 Z w T g ⟨s,[]⟩) (hF:RfF s) (ht:m.tm≤1099511627775) (hk:m.k=1) (hgt:s.term<m.tm) (hn:gg (bC s m.tm).b (bC s m.tm).t (bC s m.tm).es m.ix m.lt=false) (hv:(bC s m.tm).vote≠0) (hu:(bC s m.tm).vote=m.f) :
 Rt prog 89 [.pointer (some ⟨g,0,none⟩),.agg (bM m).toArray] w (fun v w'=>v=.tuple #[]∧a_ w0 Z w' T g (cN s m)):=by
 have hFf:RfF (bC s m.tm):=hF.falls ht;refine enter (n:=169) Tryz.func89 rfl rfl rfl (ak (ag (bZ (v:=.agg _) rfl ?_)));intro b3 w1 E3 hb3 hk3;obtain ⟨wm,hwm⟩:∃ x,x=w1:=⟨_,rfl⟩
 have h3a:=h.at_ (Z':=fun k=>Z k∨k=b3) E3 (fun k hk=>by
  rcases hk with e | e
  ·exact ⟨Nat.lt_of_lt_of_le (h.zw k e) E3.size,.inl e⟩
  ·subst e;exact ⟨hk3.lt,.inr (by omega)⟩)
 obtain ⟨Z7,hZ7⟩:∃ Z7,Z7=fun k=>Z k∨k=b3:=⟨_,rfl⟩
 have h3:a_ wm Z7 w1 T g ⟨s,[]⟩:=by
  rw [hZ7,hwm];exact h3a
 have hzi:∀ k,Z k→Z7 k:=fun k hk=>by rw [hZ7];exact .inl hk
 have hzb:Z7 b3:=by rw [hZ7];exact .inr rfl
 have hE3:ai w wm:=by rw [hwm];exact E3
 have hm9:Blk wm b3 39 (bM m).toArray:=by rw [hwm];exact hk3
 have hm3:=h3.kept hzb hm9;refine aj (af (ak (ak ?_)))
 skip
 apply bK 8 [(5,eqp _),(6,eqp (.int .i64 m.tm)),(7,eqp _),(8,eqp _),(9,eqp _),(10,eqp _),(11,eqp (.int .i64 s.term)),(12,eqp _)] (by repeat first | exact cj | refine ch ?_ | refine bQ ?_) (by kernel_rfl) (by kernel_rfl) ⟨ah _,ah _,ah _,ah _,ah _,ah _,ah _,ah _,trivial⟩
 case hop=>
  constructor
  ·rintro-w3 D3;exact ar (aa bu rfl) rfl
  constructor
  ·rintro-w4 D4;rintro _ rfl;exact ar (aq an rfl (by exact (show _=some (Value.int .i64 m.tm) from (hm3.from_ (ai.rfl_.next D4)).rd 3 rfl))) rfl
  constructor
  ·rintro-w5 D5;exact ar (aH (v:=.pointer _) rfl) rfl
  constructor
  ·rintro-w6 D6;rintro _ rfl;exact ar (ay rfl) rfl
  constructor
  ·rintro-w7 D7;rintro _ rfl;exact ar (aa aO rfl) rfl
  constructor
  ·rintro-w8 D8;rintro _ rfl;exact ar (aa bt rfl) rfl
  constructor
  ·rintro-w9 D9;rintro _ rfl;exact ar (aq an rfl (by exact (show _=some (Value.int .i64 s.term) from (h3.from_ (ai.rfl_.next D9)).rd (fun _=>rfl)))) rfl
  constructor
  ·rintro-w10 D10;rintro v10_6 rfl v10_11 rfl;exact ar (cQ (bS rfl rfl) (decide_eq_true hgt)) rfl
  exact trivial
 case hend=>
  intro w11 D11;rintro _ rfl v6 rfl _ rfl _ rfl _ rfl _ rfl v11 rfl _ rfl;show St ..;refine aj (af (aL rfl (ag (mvp rfl (ab (aa bu rfl) (ab (aq an rfl (by exact (show _=some (Value.int .i64 m.tm) from (hm3.from_ (ai.rfl_.next D11)).rd 3 rfl))) ?_))))));refine aB gJ (kH wm Z7 T g ⟨s,[]⟩ _ (h3.from_ (ai.rfl_.next D11)) m.tm) ?_;rintro v16 w12 ⟨rfl,h4⟩;have hc3:=h4;obtain ⟨tgV,aV,OV,ocV,LV,hsV⟩:=hc3.ex;have heV:=(bw.rd hsV.f).e;refine aj (af (ak (ak ?_)))
  skip
  apply bK 8 [(17,eqp _),(18,eqp (.int .i64 m.tm)),(19,eqp _),(20,eqp _),(21,eqp _),(22,eqp _),(23,eqp (.int .i64 (bC s m.tm).term)),(24,eqp _)] (by repeat first | exact cj | refine ch ?_ | refine bQ ?_) (by kernel_rfl) (by kernel_rfl) ⟨ah _,ah _,ah _,ah _,ah _,ah _,ah _,ah _,trivial⟩
  case hop=>
   constructor
   ·rintro-w14 D14;exact ar (aa bu rfl) rfl
   constructor
   ·rintro-w15 D15;rintro _ rfl;exact ar (aq an rfl (by exact (show _=some (Value.int .i64 m.tm) from ((h4.kept hzb hm9).from_ (ai.rfl_.next D15)).rd 3 rfl))) rfl
   constructor
   ·rintro-w16 D16;exact ar (aH (v:=.pointer _) rfl) rfl
   constructor
   ·rintro-w17 D17;rintro _ rfl;exact ar (ay rfl) rfl
   constructor
   ·rintro-w18 D18;rintro _ rfl;exact ar (aa aO rfl) rfl
   constructor
   ·rintro-w19 D19;rintro _ rfl;exact ar (aa bt rfl) rfl
   constructor
   ·rintro-w20 D20;rintro _ rfl;exact ar (aq an rfl (by exact (show _=some (Value.int .i64 (bC s m.tm).term) from (h4.from_ (ai.rfl_.next D20)).rd (fun _=>rfl)))) rfl
   constructor
   ·rintro-w21 D21;rintro v21_18 rfl v21_23 rfl;exact ar (cJ (b_ rfl rfl) (decide_eq_false (by have:=dq s m.tm;omega))) rfl
   exact trivial
  case hend=>
   intro w22 D22;rintro _ rfl v18 rfl _ rfl _ rfl _ rfl _ rfl v23 rfl _ rfl;show St ..;refine aj (af (br rfl (aM (af (ak (ag (ab (aa cw rfl) (ab (aq an rfl (by exact (show _=some (Value.int .i64 m.k) from ((h4.kept hzb hm9).from_ (ai.rfl_.next D22)).rd 0 rfl))) ?_))))))));refine aj (af (bg (ak (ag (ab (cQ (bj rfl rfl) (beq_iff_eq.2 hk)) (asb rfl (aj (af (aL rfl (ak ?_))))))))));apply bK 29 [(57,eqp _),(58,eqp _),(59,eqp _),(60,eqp _),(61,eqp (.int .i64 (bC s m.tm).vote)),(62,eqp _),(63,eqp _),(64,eqp _),(65,eqp _),(66,eqp _),(67,eqp _),(68,eqp _),(69,eqp _),(70,eqp _),(71,eqp _),(72,eqp _),(73,eqp _),(74,eqp _),(75,eqp _),(76,eqp _),(77,eqp _),(78,eqp _),(79,eqp _),(80,eqp _),(81,eqp _),(82,eqp _),(83,eqp _),(84,eqp _),(4,eqp _)] (by repeat first | exact cj | refine ch ?_ | refine bQ ?_) (by kernel_rfl) (by kernel_rfl) ⟨ah _,ah _,ah _,ah _,ah _,ah _,ah _,ah _,ah _,ah _,ah _,ah _,ah _,ah _,ah _,ah _,ah _,ah _,ah _,ah _,ah _,ah _,ah _,ah _,ah _,ah _,ah _,ah _,ah _,trivial⟩
   case hop=>
    constructor
    ·rintro-w24 D24;exact ar (aH (v:=.pointer _) rfl) rfl
    constructor
    ·rintro-w25 D25;rintro _ rfl;exact ar (ay rfl) rfl
    constructor
    ·rintro-w26 D26;rintro _ rfl;exact ar (aa aO rfl) rfl
    constructor
    ·rintro-w27 D27;rintro _ rfl;exact ar (aa bY rfl) rfl
    constructor
    ·rintro-w28 D28;rintro _ rfl;exact ar (aq an rfl (by exact (show _=some (Value.int .i64 (bC s m.tm).vote) from (hc3.from_ ((ai.rfl_.next D22).next D28)).rd (fun _=>rfl)))) rfl
    constructor
    ·rintro-w29 D29;rintro v29_61 rfl;exact ar (cJ (bj rfl rfl) (beq_eq_false_iff_ne.2 hv)) rfl
    constructor
    ·rintro-w30 D30;rintro _ rfl;exact ar (aH (v:=.bool _) rfl) rfl
    constructor
    ·rintro-w31 D31;rintro _ rfl;exact aD rfl (aH (v:=.pointer _) rfl) rfl
    constructor
    ·rintro-w32 D32;rintro _ rfl _ rfl;exact aD rfl (ay rfl) rfl
    constructor
    ·rintro-w33 D33;rintro _ rfl _ rfl;exact aD rfl (aa aO rfl) rfl
    constructor
    ·rintro-w34 D34;rintro _ rfl _ rfl;exact aD rfl (aa bY rfl) rfl
    constructor
    ·rintro-w35 D35;rintro _ rfl _ rfl;exact aD rfl (aq an rfl (by exact (show _=some (Value.int .i64 (bC s m.tm).vote) from (hc3.from_ ((ai.rfl_.next D22).next D35)).rd (fun _=>rfl)))) rfl
    constructor
    ·rintro-w36 D36;rintro _ rfl;exact aD rfl (aa bA rfl) rfl
    constructor
    ·rintro-w37 D37;rintro _ rfl _ rfl;exact aD rfl (aq an rfl (by exact (show _=some (Value.int .i64 m.f) from ((hc3.kept hzb hm9).from_ ((ai.rfl_.next D22).next D37)).rd 1 rfl))) rfl
    constructor
    ·rintro-w38 D38;rintro _ rfl _ rfl _ rfl;exact aD rfl (cQ (bj rfl rfl) (beq_iff_eq.2 hu)) rfl
    constructor
    ·rintro-w39 D39;rintro _ rfl _ rfl;exact ar (aw (v:=.bool _) rfl rfl) rfl
    constructor
    ·rintro-w40 D40;rintro _ rfl;exact ar (aH (v:=.bool _) rfl) rfl
    constructor
    ·rintro-w41 D41;rintro _ rfl;exact aD rfl (aH (v:=.pointer _) rfl) rfl
    constructor
    ·rintro-w42 D42;rintro _ rfl _ rfl;exact aD rfl (ay rfl) rfl
    constructor
    ·rintro-w43 D43;rintro _ rfl _ rfl;exact aD rfl (aa aO rfl) rfl
    constructor
    ·rintro-w44 D44;rintro _ rfl _ rfl;exact aD rfl (aa bq rfl) rfl
    constructor
    ·rintro-w45 D45;rintro _ rfl _ rfl;exact aD rfl (aG (cs:=[.int .i64 (bC s m.tm).b,.int .i64 (bC s m.tm).t,.slice aV.E (bC s m.tm).es.length aV.Ec]) bB bd rfl (fB (hsV.b.from_ ((ai.rfl_.next D22).next D45)))) rfl
    constructor
    ·rintro-w46 D46;rintro _ rfl;exact aD rfl (aa bR rfl) rfl
    constructor
    ·rintro-w47 D47;rintro _ rfl _ rfl;exact aD rfl (aq an rfl (by exact (show _=some (Value.int .i64 m.ix) from ((hc3.kept hzb hm9).from_ ((ai.rfl_.next D22).next D47)).rd 4 rfl))) rfl
    constructor
    ·rintro-w48 D48;rintro _ rfl;exact aD rfl (aa ck rfl) rfl
    constructor
    ·rintro-w49 D49;rintro _ rfl _ rfl;exact aD rfl (aq an rfl (by exact (show _=some (Value.int .i64 m.lt) from ((hc3.kept hzb hm9).from_ ((ai.rfl_.next D22).next D49)).rd 5 rfl))) rfl
    constructor
    ·rintro-w50 D50;rintro _ rfl _ rfl _ rfl _ rfl;refine gx rfl fh ((gB (bC s m.tm) m aV.E aV.Ec _ (heV.from_ ((ai.rfl_.next D22).next D50)) hn).mono ?_);rintro v _ ⟨rfl,E50'⟩;exact ⟨E50',rfl⟩
    constructor
    ·rintro-w51 D51;rintro _ rfl _ rfl;exact ar (aJ (v:=.bool _) rfl rfl) rfl
    constructor
    ·rintro-w52 D52;rintro _ rfl;exact ar (cy (v:=.bool _) rfl) rfl
    exact trivial
   case hend=>
    intro w53 D53;rintro _ rfl _ rfl _ rfl _ rfl v61 rfl _ rfl _ rfl _ rfl _ rfl _ rfl _ rfl _ rfl _ rfl _ rfl _ rfl _ rfl _ rfl _ rfl _ rfl _ rfl _ rfl _ rfl _ rfl _ rfl _ rfl _ rfl _ rfl _ rfl _ rfl;show St ..;refine aj (af (ak (ak (ag (mvb rfl (aj (af (br rfl (aM (af (ag (mvp rfl (ab (aa bA rfl) (ab (aq an rfl (by exact (show _=some (Value.int .i64 m.f) from ((hc3.kept hzb hm9).from_ ((ai.rfl_.next D22).next D53)).rd 1 rfl))) ?_))))))))))))));refine mvb rfl (ab (cp (l:=[(0,.const (.int .i64 2)),(2,.tmp 98),(8,.tmp 99)]) (cG _ _)) (dm (t:=100) (v:=.agg _) (v':=.agg (bM ({ zM with k:=2,t:=m.f,ok:=false }:Msg)).toArray) rfl (by rfl) ?_));have h7:=hc3.from_ ((ai.rfl_.next D22).next D53);obtain ⟨tgA,aA,OA,ocA,LA,hsA⟩:=h7.ex;obtain rfl:=hsA.nilL;refine aB ea (fu wm Z7 T g ⟨(bC s m.tm),[]⟩ _ h7 _ _ _ _ _ hsA (Nat.zero_le _) ({ zM with k:=2,t:=m.f,ok:=false }:Msg) ⟨c6,Col.none⟩) ?_;rintro v101 w54 ⟨rfl,h6⟩;refine aj (bE (cR (ey rfl ?_)));rw [jH hgt,iw (by have:=dq s m.tm;omega) hk,kv (.inl hn)];exact ⟨rfl,h.back hE3 (h6.from_ ai.rfl_) hzi⟩
theorem py (w0:World) (Z:Nat→Prop) (T g:Nat) (s:Rf) (m:Msg) (w:World) (h:a_ w0 Z w T g ⟨s,[]⟩) (hF:RfF s) (ht:m.tm≤1099511627775) (hk:m.k=1) (hgt:s.term<m.tm) (hv:(bC s m.tm).vote≠0) (hu:(bC s m.tm).vote≠m.f) :
 Rt prog 89 [.pointer (some ⟨g,0,none⟩),.agg (bM m).toArray] w (fun v w'=>v=.tuple #[]∧a_ w0 Z w' T g (cN s m)):=by
 have hFf:RfF (bC s m.tm):=hF.falls ht;refine enter (n:=169) Tryz.func89 rfl rfl rfl (ak (ag (bZ (v:=.agg _) rfl ?_)));intro b3 w1 E3 hb3 hk3;obtain ⟨wm,hwm⟩:∃ x,x=w1:=⟨_,rfl⟩
 have h3a:=h.at_ (Z':=fun k=>Z k∨k=b3) E3 (fun k hk=>by
  rcases hk with e | e
  ·exact ⟨Nat.lt_of_lt_of_le (h.zw k e) E3.size,.inl e⟩
  ·subst e;exact ⟨hk3.lt,.inr (by omega)⟩)
 obtain ⟨Z7,hZ7⟩:∃ Z7,Z7=fun k=>Z k∨k=b3:=⟨_,rfl⟩
 have h3:a_ wm Z7 w1 T g ⟨s,[]⟩:=by
  rw [hZ7,hwm];exact h3a
 have hzi:∀ k,Z k→Z7 k:=fun k hk=>by rw [hZ7];exact .inl hk
 have hzb:Z7 b3:=by rw [hZ7];exact .inr rfl
 have hE3:ai w wm:=by rw [hwm];exact E3
 have hm9:Blk wm b3 39 (bM m).toArray:=by rw [hwm];exact hk3
 have hm3:=h3.kept hzb hm9;refine aj (af (ak (ak ?_)))
 skip
 apply bK 8 [(5,eqp _),(6,eqp (.int .i64 m.tm)),(7,eqp _),(8,eqp _),(9,eqp _),(10,eqp _),(11,eqp (.int .i64 s.term)),(12,eqp _)] (by repeat first | exact cj | refine ch ?_ | refine bQ ?_) (by kernel_rfl) (by kernel_rfl) ⟨ah _,ah _,ah _,ah _,ah _,ah _,ah _,ah _,trivial⟩
 case hop=>
  constructor
  ·rintro-w3 D3;exact ar (aa bu rfl) rfl
  constructor
  ·rintro-w4 D4;rintro _ rfl;exact ar (aq an rfl (by exact (show _=some (Value.int .i64 m.tm) from (hm3.from_ (ai.rfl_.next D4)).rd 3 rfl))) rfl
  constructor
  ·rintro-w5 D5;exact ar (aH (v:=.pointer _) rfl) rfl
  constructor
  ·rintro-w6 D6;rintro _ rfl;exact ar (ay rfl) rfl
  constructor
  ·rintro-w7 D7;rintro _ rfl;exact ar (aa aO rfl) rfl
  constructor
  ·rintro-w8 D8;rintro _ rfl;exact ar (aa bt rfl) rfl
  constructor
  ·rintro-w9 D9;rintro _ rfl;exact ar (aq an rfl (by exact (show _=some (Value.int .i64 s.term) from (h3.from_ (ai.rfl_.next D9)).rd (fun _=>rfl)))) rfl
  constructor
  ·rintro-w10 D10;rintro v10_6 rfl v10_11 rfl;exact ar (cQ (bS rfl rfl) (decide_eq_true hgt)) rfl
  exact trivial
 case hend=>
  intro w11 D11;rintro _ rfl v6 rfl _ rfl _ rfl _ rfl _ rfl v11 rfl _ rfl;show St ..;refine aj (af (aL rfl (ag (mvp rfl (ab (aa bu rfl) (ab (aq an rfl (by exact (show _=some (Value.int .i64 m.tm) from (hm3.from_ (ai.rfl_.next D11)).rd 3 rfl))) ?_))))));refine aB gJ (kH wm Z7 T g ⟨s,[]⟩ _ (h3.from_ (ai.rfl_.next D11)) m.tm) ?_;rintro v16 w12 ⟨rfl,h4⟩;have hc3:=h4;obtain ⟨tgV,aV,OV,ocV,LV,hsV⟩:=hc3.ex;have heV:=(bw.rd hsV.f).e;refine aj (af (ak (ak ?_)))
  skip
  apply bK 8 [(17,eqp _),(18,eqp (.int .i64 m.tm)),(19,eqp _),(20,eqp _),(21,eqp _),(22,eqp _),(23,eqp (.int .i64 (bC s m.tm).term)),(24,eqp _)] (by repeat first | exact cj | refine ch ?_ | refine bQ ?_) (by kernel_rfl) (by kernel_rfl) ⟨ah _,ah _,ah _,ah _,ah _,ah _,ah _,ah _,trivial⟩
  case hop=>
   constructor
   ·rintro-w14 D14;exact ar (aa bu rfl) rfl
   constructor
   ·rintro-w15 D15;rintro _ rfl;exact ar (aq an rfl (by exact (show _=some (Value.int .i64 m.tm) from ((h4.kept hzb hm9).from_ (ai.rfl_.next D15)).rd 3 rfl))) rfl
   constructor
   ·rintro-w16 D16;exact ar (aH (v:=.pointer _) rfl) rfl
   constructor
   ·rintro-w17 D17;rintro _ rfl;exact ar (ay rfl) rfl
   constructor
   ·rintro-w18 D18;rintro _ rfl;exact ar (aa aO rfl) rfl
   constructor
   ·rintro-w19 D19;rintro _ rfl;exact ar (aa bt rfl) rfl
   constructor
   ·rintro-w20 D20;rintro _ rfl;exact ar (aq an rfl (by exact (show _=some (Value.int .i64 (bC s m.tm).term) from (h4.from_ (ai.rfl_.next D20)).rd (fun _=>rfl)))) rfl
   constructor
   ·rintro-w21 D21;rintro v21_18 rfl v21_23 rfl;exact ar (cJ (b_ rfl rfl) (decide_eq_false (by have:=dq s m.tm;omega))) rfl
   exact trivial
  case hend=>
   intro w22 D22;rintro _ rfl v18 rfl _ rfl _ rfl _ rfl _ rfl v23 rfl _ rfl;show St ..;refine aj (af (br rfl (aM (af (ak (ag (ab (aa cw rfl) (ab (aq an rfl (by exact (show _=some (Value.int .i64 m.k) from ((h4.kept hzb hm9).from_ (ai.rfl_.next D22)).rd 0 rfl))) ?_))))))));refine aj (af (bg (ak (ag (ab (cQ (bj rfl rfl) (beq_iff_eq.2 hk)) (asb rfl (aj (af (aL rfl (ak ?_))))))))));apply bK 29 [(57,eqp _),(58,eqp _),(59,eqp _),(60,eqp _),(61,eqp (.int .i64 (bC s m.tm).vote)),(62,eqp _),(63,eqp _),(64,eqp _),(65,eqp _),(66,eqp _),(67,eqp _),(68,eqp _),(69,eqp _),(70,eqp _),(71,eqp _),(72,eqp _),(73,eqp _),(74,eqp _),(75,eqp _),(76,eqp _),(77,eqp _),(78,eqp _),(79,eqp _),(80,eqp _),(81,eqp _),(82,eqp _),(83,eqp _),(84,eqp _),(4,eqp _)] (by repeat first | exact cj | refine ch ?_ | refine bQ ?_) (by kernel_rfl) (by kernel_rfl) ⟨ah _,ah _,ah _,ah _,ah _,ah _,ah _,ah _,ah _,ah _,ah _,ah _,ah _,ah _,ah _,ah _,ah _,ah _,ah _,ah _,ah _,ah _,ah _,ah _,ah _,ah _,ah _,ah _,ah _,trivial⟩
   case hop=>
    constructor
    ·rintro-w24 D24;exact ar (aH (v:=.pointer _) rfl) rfl
    constructor
    ·rintro-w25 D25;rintro _ rfl;exact ar (ay rfl) rfl
    constructor
    ·rintro-w26 D26;rintro _ rfl;exact ar (aa aO rfl) rfl
    constructor
    ·rintro-w27 D27;rintro _ rfl;exact ar (aa bY rfl) rfl
    constructor
    ·rintro-w28 D28;rintro _ rfl;exact ar (aq an rfl (by exact (show _=some (Value.int .i64 (bC s m.tm).vote) from (hc3.from_ ((ai.rfl_.next D22).next D28)).rd (fun _=>rfl)))) rfl
    constructor
    ·rintro-w29 D29;rintro v29_61 rfl;exact ar (cJ (bj rfl rfl) (beq_eq_false_iff_ne.2 hv)) rfl
    constructor
    ·rintro-w30 D30;rintro _ rfl;exact ar (aH (v:=.bool _) rfl) rfl
    constructor
    ·rintro-w31 D31;rintro _ rfl;exact aD rfl (aH (v:=.pointer _) rfl) rfl
    constructor
    ·rintro-w32 D32;rintro _ rfl _ rfl;exact aD rfl (ay rfl) rfl
    constructor
    ·rintro-w33 D33;rintro _ rfl _ rfl;exact aD rfl (aa aO rfl) rfl
    constructor
    ·rintro-w34 D34;rintro _ rfl _ rfl;exact aD rfl (aa bY rfl) rfl
    constructor
    ·rintro-w35 D35;rintro _ rfl _ rfl;exact aD rfl (aq an rfl (by exact (show _=some (Value.int .i64 (bC s m.tm).vote) from (hc3.from_ ((ai.rfl_.next D22).next D35)).rd (fun _=>rfl)))) rfl
    constructor
    ·rintro-w36 D36;rintro _ rfl;exact aD rfl (aa bA rfl) rfl
    constructor
    ·rintro-w37 D37;rintro _ rfl _ rfl;exact aD rfl (aq an rfl (by exact (show _=some (Value.int .i64 m.f) from ((hc3.kept hzb hm9).from_ ((ai.rfl_.next D22).next D37)).rd 1 rfl))) rfl
    constructor
    ·rintro-w38 D38;rintro _ rfl _ rfl _ rfl;exact aD rfl (cJ (bj rfl rfl) (beq_eq_false_iff_ne.2 hu)) rfl
    constructor
    ·rintro-w39 D39;rintro _ rfl _ rfl;exact ar (aw (v:=.bool _) rfl rfl) rfl
    constructor
    ·rintro-w40 D40;rintro _ rfl;exact ar (aH (v:=.bool _) rfl) rfl
    constructor
    ·rintro-w41 D41;rintro _ rfl;exact bJ rfl rfl rfl
    constructor
    ·rintro-w42 D42;rintro _ rfl _ rfl;exact bJ rfl rfl rfl
    constructor
    ·rintro-w43 D43;rintro _ rfl _ rfl;exact bJ rfl rfl rfl
    constructor
    ·rintro-w44 D44;rintro _ rfl _ rfl;exact bJ rfl rfl rfl
    constructor
    ·rintro-w45 D45;rintro _ rfl _ rfl;exact bJ rfl rfl rfl
    constructor
    ·rintro-w46 D46;rintro _ rfl;exact bJ rfl rfl rfl
    constructor
    ·rintro-w47 D47;rintro _ rfl _ rfl;exact bJ rfl rfl rfl
    constructor
    ·rintro-w48 D48;rintro _ rfl;exact bJ rfl rfl rfl
    constructor
    ·rintro-w49 D49;rintro _ rfl _ rfl;exact bJ rfl rfl rfl
    constructor
    ·rintro-w50 D50;rintro _ rfl _ rfl _ rfl _ rfl;exact bJ rfl rfl rfl
    constructor
    ·rintro-w51 D51;rintro _ rfl _ rfl;exact ar (aw (v:=.bool _) rfl rfl) rfl
    constructor
    ·rintro-w52 D52;rintro _ rfl;exact ar (cy (v:=.bool _) rfl) rfl
    exact trivial
   case hend=>
    intro w53 D53;rintro _ rfl _ rfl _ rfl _ rfl v61 rfl _ rfl _ rfl _ rfl _ rfl _ rfl _ rfl _ rfl _ rfl _ rfl _ rfl _ rfl _ rfl _ rfl _ rfl _ rfl _ rfl _ rfl _ rfl _ rfl _ rfl _ rfl _ rfl _ rfl _ rfl;show St ..;refine aj (af (ak (ak (ag (mvb rfl (aj (af (br rfl (aM (af (ag (mvp rfl (ab (aa bA rfl) (ab (aq an rfl (by exact (show _=some (Value.int .i64 m.f) from ((hc3.kept hzb hm9).from_ ((ai.rfl_.next D22).next D53)).rd 1 rfl))) ?_))))))))))))));refine mvb rfl (ab (cp (l:=[(0,.const (.int .i64 2)),(2,.tmp 98),(8,.tmp 99)]) (cG _ _)) (dm (t:=100) (v:=.agg _) (v':=.agg (bM ({ zM with k:=2,t:=m.f,ok:=false }:Msg)).toArray) rfl (by rfl) ?_));have h7:=hc3.from_ ((ai.rfl_.next D22).next D53);obtain ⟨tgA,aA,OA,ocA,LA,hsA⟩:=h7.ex;obtain rfl:=hsA.nilL;refine aB ea (fu wm Z7 T g ⟨(bC s m.tm),[]⟩ _ h7 _ _ _ _ _ hsA (Nat.zero_le _) ({ zM with k:=2,t:=m.f,ok:=false }:Msg) ⟨c6,Col.none⟩) ?_;rintro v101 w54 ⟨rfl,h6⟩;refine aj (bE (cR (ey rfl ?_)));rw [jH hgt,iw (by have:=dq s m.tm;omega) hk,kv (.inr ⟨hv,hu⟩)];exact ⟨rfl,h.back hE3 (h6.from_ ai.rfl_) hzi⟩
theorem rf (w0:World) (Z:Nat→Prop) (T g:Nat) (s:Rf) (m:Msg) (w:World) (h:a_ w0 Z w T g ⟨s,[]⟩) (hF:RfF s) (ht:m.tm≤1099511627775) (hk:m.k=1):Rt prog 89 [.pointer (some ⟨g,0,none⟩),.agg (bM m).toArray] w fun v w'=>v=.tuple #[]∧a_ w0 Z w' T g (cN s m):=by
 rcases Int.lt_trichotomy m.tm s.term with h1 | h1 | h1
 ·exact xJ w0 Z T g s m w h h1
 ·replace h1:=h1.symm;cases hn:gg s.b s.t s.es m.ix m.lt with
  |true=>
   by_cases hv:s.vote=0
   ·exact uG w0 Z T g s m w h hF ht hk h1 hn hv
   ·by_cases hu:s.vote=m.f
    ·exact uE w0 Z T g s m w h hF ht hk h1 hn hv hu
    ·exact pz w0 Z T g s m w h hF ht hk h1 hv hu
  |false=>
   by_cases hv:s.vote=0
   ·exact uF w0 Z T g s m w h hF ht hk h1 hn hv
   ·by_cases hu:s.vote=m.f
    ·exact uD w0 Z T g s m w h hF ht hk h1 hn hv hu
    ·exact pz w0 Z T g s m w h hF ht hk h1 hv hu
 ·
  cases hn:gg (bC s m.tm).b (bC s m.tm).t (bC s m.tm).es m.ix m.lt with
  |true=>
   by_cases hv:(bC s m.tm).vote=0
   ·exact uC w0 Z T g s m w h hF ht hk h1 hn hv
   ·by_cases hu:(bC s m.tm).vote=m.f
    ·exact uA w0 Z T g s m w h hF ht hk h1 hn hv hu
    ·exact py w0 Z T g s m w h hF ht hk h1 hv hu
  |false=>
   by_cases hv:(bC s m.tm).vote=0
   ·exact uB w0 Z T g s m w h hF ht hk h1 hn hv
   ·by_cases hu:(bC s m.tm).vote=m.f
    ·exact uz w0 Z T g s m w h hF ht hk h1 hn hv hu
    ·exact py w0 Z T g s m w h hF ht hk h1 hv hu
theorem rS:aR prog 21=true:=by kernel_rfl
theorem iq:aR prog 22=true:=by kernel_rfl
theorem rR:aR prog 23=true:=by kernel_rfl
def wkA (k:Int):Rf:={ rz 1 1 1 with elapsed:=k }
def wkB (e r:Int):Rf:=⟨1,1,2,1,1,1,0,0,[⟨1,1,⟨#[]⟩⟩],⟨#[]⟩,1,e,10+bl (nx 1) 10,nx (nx 1),[],[1],[1],[0],r,[],⟨#[]⟩,0⟩
def wkR:Nat→Rf
 |0=>rz 1 1 1
 |k+1=>(iC (wkR k)).s
theorem xX:med [1]=1:=by
 have h:srt [1]=[1]:=List.perm_singleton.1 (nS [1]);unfold med;rw [h];rfl
theorem vd (k:Int):(ja (wkA k)).s=wkB 0 0:=by
 rw [rL (show (wkA k).term≠eO by show (0:Int)≠1099511627775;decide)];show (kj ⟨eh (wkA k),[]⟩).s=_;unfold kj;rw [if_pos (show ft (⟨eh (wkA k),[]⟩:Sp).s.nodes (⟨eh (wkA k),[]⟩:Sp).s.votes=true from (by decide:ft 1 [1]=true))];unfold lZ;rw [if_neg (show ¬ il (⟨eh (wkA k),[]⟩:Sp).s=true from fun h=>Bool.noConfusion (show false=true from h))];show dE (Sp.all ⟨fy (eE (eh (wkA k))) ⟨#[]⟩,[]⟩).s=_;rw [mP];show dE (fy (eE (eh (wkA k))) ⟨#[]⟩)=_;unfold dE;simp only;rw [show eM (fy (eE (eh (wkA k))) ⟨#[]⟩).mtch (fy (eE (eh (wkA k))) ⟨#[]⟩).id (bH (fy (eE (eh (wkA k))) ⟨#[]⟩))=[1] from rfl,xX];rfl
theorem xy {k:Int} (h:0≤k∧k≤20):ik (wkA k)=true:=by
 have hb:=s5 1;refine bh.2 ⟨?_,?_,rfl,?_,?_⟩
 ·unfold iL wkA rz iy zR;simp only;omega
 ·exact ⟨rfl,Int.le_refl 0,⟨Int.le_refl 0,Int.le_refl 0⟩,Nat.zero_le _,.inr rfl⟩
 ·exact (bP (show (0:Int)≠2 by decide)).2 rfl
 ·exact ⟨Nat.zero_le _,⟨Int.le_refl 0,z11⟩,.inr rfl⟩
theorem xw {e r:Int} (he:0≤e∧e≤1) (hr:0≤r∧r≤20):ik (wkB e r)=true:=by
 have hb:=s5 (nx 1);refine bh.2 ⟨?_,?_,rfl,?_,?_⟩
 ·unfold iL wkB;simp only;omega
 ·exact ⟨(by decide:cD 0 0 [⟨1,1,⟨#[]⟩⟩]=true),Int.le_refl 1,⟨(by decide:(0:Int)≤1),Int.le_refl 1⟩,Nat.zero_le _,.inr rfl⟩
 ·exact (bm rfl).2 ⟨⟨rfl,rfl,rfl,Nat.zero_le _⟩,⟨fun x hx=>by rw [List.mem_singleton.1 hx];exact ⟨Int.le_refl 1,(by decide:(1:Int)≤1+1)⟩,fun x hx=>by rw [List.mem_singleton.1 hx];exact ⟨(by decide:(0:Int)≤1),Int.le_refl 1⟩,fun x hx=>by rw [List.mem_singleton.1 hx];exact ⟨Int.le_refl 0,Int.le_refl 0⟩⟩,fun q hq=>by cases hq⟩
 ·exact ⟨Nat.zero_le _,⟨Int.le_refl 0,z11⟩,.inr rfl⟩
theorem ve:∀ k:Nat,k≤20→((k:Int)<10+bl 1 10∧wkR k=wkA k)∨(10+bl 1 10≤(k:Int)∧∃ e r:Int,(0≤e∧e≤1)∧(0≤r∧r≤k)∧wkR k=wkB e r)
 |0,_=>by
  have hb:=s5 1;exact .inl ⟨by show (0:Int)<_;omega,rfl⟩
 |k+1,hk=>by
  have hb:=s5 1;rcases ve k (by omega) with ⟨h1,h2⟩ | ⟨h1,e,r,he,hr,h2⟩
  ·have ht:wkR (k+1)=(iC (wkA k)).s:=by rw [←h2];rfl
   have hm:min ((k:Int)+1) eO=((k+1:Nat):Int):=by unfold eO;omega
   have h3:iC (wkA k)=if 10+bl 1 10≤((k+1:Nat):Int) then ja (wkA ((k+1:Nat):Int)) else ⟨wkA ((k+1:Nat):Int),[]⟩:=by
    unfold iC;simp only;rw [if_neg (show ¬ (wkA k).role=2 by show ¬ (0:Int)=2;decide),show min ((wkA (k:Int)).elapsed+1) eO=((k+1:Nat):Int) from hm];rfl
   rw [ht,h3];by_cases h4:10+bl 1 10≤((k+1:Nat):Int)
   ·rw [if_pos h4,vd];exact .inr ⟨h4,0,0,⟨by omega,by omega⟩,⟨by omega,by omega⟩,rfl⟩
   ·rw [if_neg h4];exact .inl ⟨by omega,rfl⟩
  ·have ht:wkR (k+1)=(iC (wkB e r)).s:=by rw [←h2];rfl
   have hm:min (e+1) eO=e+1:=by unfold eO;omega
   have hm2:min (r+1) eO=r+1:=by unfold eO;omega
   have h3:(iC (wkB e r)).s=if 2≤e+1 then wkB 0 (r+1) else wkB (e+1) r:=by
    unfold iC;simp only;rw [if_pos (show (wkB e r).role=2 from rfl),show min ((wkB e r).elapsed+1) eO=e+1 from hm,show min ((wkB e r).round+1) eO=r+1 from hm2];split
    ·rw [mP];rfl
    ·rfl
   rw [ht,h3];refine .inr ⟨by omega,?_⟩;split
   ·exact ⟨0,r+1,⟨by omega,by omega⟩,⟨by omega,by omega⟩,rfl⟩
   ·exact ⟨e+1,r,⟨by omega,by omega⟩,⟨by omega,by omega⟩,rfl⟩
theorem yJ {k:Nat} (hk:k≤20):ik (wkR k)=true:=by
 rcases ve k hk with ⟨_,h2⟩ | ⟨_,e,r,he,hr,h2⟩
 ·rw [h2];exact xy (by omega)
 ·rw [h2];exact xw he (by omega)
theorem yK:(wkR 20).role=2∧(wkR 20).term=1∧(wkR 20).commit=1:=by
 have hb:=s5 1;rcases ve 20 (Nat.le_refl _) with ⟨h1,_⟩ | ⟨_,e,r,_,_,h2⟩
 ·omega
 ·rw [h2];exact ⟨rfl,rfl,rfl⟩
theorem RfF.sizes {s:Rf} (h:RfF s):(s.votes.length≤1000000∧s.next.length≤1000000∧s.mtch.length≤1000000∧s.sent.length≤1000000∧s.reads.length≤1000000∧∀ q∈s.reads,q.acks.length≤1000000)∧s.es.length≤1000000:=by
 have h1:=h.vl;have h2:=h.n
 have h3:gn s≤7:=by
  by_cases hr:s.role=2
  ·rw [jw hr];omega
  ·rw [nH hr];omega
 have h4:=h.nx.1;have h5:=h.ma.1;have h6:=h.se.1;have h7:=h.rl;have h8:=h.last;refine ⟨⟨by omega,by omega,by omega,by omega,by omega,fun q hq=>?_⟩,by omega⟩;have h9:=(cz.1 (h.rd q hq)).2.2.2;have h10:=lV h9;have h11:=k8 q.acks 0 s.nodes h10.2 fun x hx=>⟨by have:=(h10.1 x hx).1;omega,(h10.1 x hx).2⟩
 omega
theorem zG {w:World} {id n seed:Int}:eX w (rz id n seed) a0:=bw.rd (bw.same (s':=rz id n seed) (bw.zero (w:=w) (tag:=fun _=>8)) rfl rfl rfl rfl rfl rfl)
theorem y4 (w:World):Rt prog 21 [.int .i64 1,.int .i64 1,.int .u64 1] w fun v w'=>v=.tuple #[.agg (rfV (rz 1 1 1) a0).toArray,.int .i64 0]∧ai w w':=
 (xU 1 1 1 w).mono fun v w' h=>⟨h.1.elim (fun e=>e.2) (fun e=>absurd (by unfold nv;omega) e.1),h.2⟩
theorem kD (e:Int) (w:World) :
 Rt prog 22 [.int .i64 e] w (fun v w'=>v=.int .i64 e∧w=w'):=by
 refine enter (n:=4) Tryz.func22 rfl rfl rfl (ak (ag (asi rfl (aj (af (ak (ag (mvi rfl (asi rfl (aj (af (aC (bo (v:=.int _ _) rfl rfl (⟨rfl,rfl⟩))))))))))))))
theorem qO (w:World) :
 Rt prog 18 [] w (fun v w'=>v=.bool true∧ai w w'):=by
 refine enter (n:=37) Tryz.func18 rfl rfl rfl (ak (ag (asb rfl (aj (af (ak (ag (aB rS (y4 _) ?_))))))));rintro v5 w1 ⟨rfl,E5⟩;refine mvt rfl (ab (aY rfl rfl) (ab (aY rfl rfl) ?_));have hz1:=((ai.rfl_.next E5)).size;refine cf dk ?_;intro b1 w2 E1 hb1 hk1;have hg1:w.heap.size≤b1:=by omega
 refine b0 (vs:=[_,_,_,_,_,_,_,_,_,_,_,_,_,_,_,_,_,_,_,_,_,_]) aK rfl rfl (by simp [Value.oneCell']) (hk1) rfl ?_;intro w3 O1 P1;refine asi rfl (aj (af (ak (ak (ag (mvi rfl (aB iq (kD _ _) ?_)))))));rintro v9 w4 ⟨rfl,rfl⟩;refine ab (cJ (dG rfl rfl) rfl) (aj (af (br rfl (aM (af (ak (ak (ag (asi rfl (aj (af (bg (dd (G:=Nat×Ra) [0,11,12,13,14,15,16,17,18,19,20,21,22,23] (fun (k,_)=>[(2,.int .i64 0),(3,.int .i64 (k:Nat))]) (fun (k,a) w'=>k≤20∧Blk w' b1 29 (rfV (wkR k) a).toArray∧eX w' (wkR k) a∧ai w w') (fun (k,_)=>20-k) ((0,a0)) ⟨rfl,rfl,trivial⟩ ?_ ?_)))))))))))))
 ·exact ⟨Nat.zero_le _,P1.from_ ai.rfl_,zG,(((ai.rfl_.next E5).next E1).only O1 (hg1))⟩
 rintro ⟨k,a⟩ ρ5 w5 ⟨hk,hkb,hrd,hB⟩;refine ak (ak (ag (mvi rfl (ab (b_ rfl rfl) (aj (af (Ab rfl (fun Q6=>?_) (fun Q6=>?_))))))))
 ·have hmk:=yJ (k:=k) (by omega);have hszs:=(mJ hmk).sizes;refine aM (af (ak (bg (ak (ag (ab (aG (cs:=rfV (wkR k) a) aQ aK rfl ((hkb.from_ ai.rfl_).whole)) ?_))))));have hM17:ai _ w5:=ai.rfl_;have hlt1:b1<(w5).heap.size:=(hkb.from_ ai.rfl_).lt;refine aB rR (vk (wkR k) a _ (hrd.from_ ai.rfl_) hszs.1 hszs.2 hmk) ?_;rintro v17 w7 ⟨⟨tag9,a9,O9,oc9,L9,rfl,hf9,hm9,ht9⟩,E17⟩;refine mvt rfl (ab (aY rfl rfl) (ab (aY rfl rfl) (ab (aY rfl rfl) (b0 (vs:=[_,_,_,_,_,_,_,_,_,_,_,_,_,_,_,_,_,_,_,_,_,_]) aK rfl rfl (by simp [Value.oneCell']) (((hkb.from_ hM17).from_ E17)) rfl ?_))));intro w8 O7 P7;have hrd9:eX w8 (wkR (k+1)) a9:=bw.rd (cZ.chg8 hf9 (O7.toChg rfl) (ht9 b1 hlt1));refine asi rfl (aj (af (ak (ag (mvi rfl (aB iq (kD _ _) ?_))))));rintro v22 w9 ⟨rfl,rfl⟩;refine ab (cJ (dG rfl rfl) rfl) (aj (af (br rfl (aM (bE (af (ag (mvi rfl (ab (cq rfl rfl (by omega)) (asi rfl (aj ?_)))))))))));refine cu ((k+1,a9)) ⟨(by first | rfl | (refine bT ?_;omega)),(by first | rfl | (refine bT ?_;omega)),trivial⟩ (by (iterate 31 refine bI rfl ?_);exact bU) ⟨?_,?_⟩
  ·exact ⟨by omega,P7.from_ ai.rfl_,hrd9.from_ ai.rfl_,((hB.next E17).only O7 (hg1))⟩
  ·show 20-(k+1)<20-k;omega
 have h20:k=20:=by omega
 have hwe:=yK;rw [←h20] at hwe;refine cI (bD (bD (cr (af (ak (ag (ab (aa du rfl) (ab (aq an rfl (by exact (show _=some (Value.int .i64 (wkR k).role) from (hkb.from_ ai.rfl_).rd 2 rfl))) ?_))))))));refine ab (cQ (bj rfl rfl) (by rw [hwe.1];rfl)) ?_;refine mvb rfl (ae rfl (ab (aa bt rfl) (ae rfl (ab (aq an rfl (by exact (show _=some (Value.int .i64 (wkR k).term) from (hkb.from_ ai.rfl_).rd 3 rfl))) ?_))));refine ae rfl (ab (cQ (bj rfl rfl) (by rw [hwe.2.1];rfl)) ?_);refine ab (aJ (v:=.bool _) rfl rfl) (mvb rfl (ae rfl (ab (aa dr rfl) (ae rfl (ab (aq an rfl (by exact (show _=some (Value.int .i64 (wkR k).commit) from (hkb.from_ ai.rfl_).rd 10 rfl))) ?_)))));refine ae rfl (ab (cQ (bj rfl rfl) (by rw [hwe.2.2];rfl)) ?_);refine ab (aJ (v:=.bool _) rfl rfl) (asb rfl (aj (af (aC (bo (v:=.bool _) rfl rfl (⟨rfl,hB⟩))))))
end Go.Proofs.YtkpooenofjdpmaaGreat
