/- texts that the claim stands on. -/
import Derived.Test.YtmbcbinocebodaaSlDkLawT1
import Derived.Deep.AppendLies
import Derived.Lib.AppendStr
import Derived.Lib.Bytealg
import Derived.Shelf.Small.Strs
import Derived.Shelf.GgClosure.StringsIndexFunc
import Derived.Ground.GgwProg
import Derived.Shelf.GgClosure.StringsIndexFuncTop
import Derived.Shelf.GgClosure.StringsRunes
import Derived.Ground.SlbCloneProg
import Derived.Shelf.Bytes.SlClone
import Derived.Deep.Upon
set_option maxRecDepth 100000
set_option maxHeartbeats 4000000
namespace Go.Proofs.Ytmbcbinocebodaa
open Go.Proofs.Try (prog)
open Go.RowKit
def iW (l:List Oper):Bool:=(List.range l.length).all fun i=>match l[i]? with
 |none=>false
 |some o=>o.guard.isNone&&o.after.toList.all fun e=> !Region.binds .any e||decide (e.on<i)
def bC (S:Nat→Bool) (i:Nat):Nat→Bool:=fun j=>if j=i then true else S j
def eC (P:Program) (n:Fr) (o:Oper) (Inv:List (Nat×Value)→World→Prop) (L':List (Nat×Value)) (w':World):Prop:=
 (∃ d v w'',o.dst=some d∧(execOp (ev n L') o).run P w'=.ok (.value v) w''∧Inv ((d,v)::L') w'')∨
 (∃ w'',o.dst=none∧(execOp (ev n L') o).run P w'=.ok .skip w''∧Inv L' w'')∨
 (∃ d f args,o.dst=some d∧(execOp (ev n L') o).run P w'=.ok (.enter f (List.toArray args)) w'∧Rt P f args w' fun v w''=>Inv ((d,v)::L') w'')
section
variable {P:Program} {Q:Exit→Act→World→Prop} {n:Fr} {L:List (Nat×Value)} {w:World} {l:List Oper}
theorem lu {Inv:(Nat→Bool)→List (Nat×Value)→World→Prop} (hwf:iW l=true)
 (hstep:∀ (i:Nat) (o:Oper) (S:Nat→Bool) (L':List (Nat×Value)) (w':World),l[i]? =some o→Inv S L' w'→S i=false→(∀ e∈o.after,Region.binds .any e=true→S e.on=true)→eC P n o (Inv (bC S i)) L' w')
 (hend:∀ L' w',Inv (fun i=>decide (i<l.length)) L' w'→Q .normal (mkA n L') w') :
 ∀ (m:Nat) (listed:Array Bool) (L':List (Nat×Value)) (w':World),listed.toList.count false=m→listed.size=l.length→Inv (fun i=>listed.getD i false) L' w'→wpAny P .any l.toArray Q m listed (mkA n L') w':=by
 have hck:=List.all_eq_true.1 hwf;intro m
 induction m with
 |zero=>
  intro listed L' w' hcount hs hI
  have hall:∀ i,i<l.length→listed.getD i false=true:=fun i hi=>by
   have hm:listed[i]'(by omega)∈listed.toList:=by simp
   cases hb:listed[i]'(by omega) with
   |true=>simp [Array.getD,show i<listed.size by omega,hb]
   |false=>rw [hb] at hm;exact absurd hcount (Nat.pos_iff_ne_zero.1 (List.count_pos_iff.2 hm))
  have e:(fun i=>listed.getD i false)=fun i=>decide (i<l.length):=by
   funext i
   by_cases hi:i<l.length
   ·rw [hall i hi,decide_eq_true hi]
   ·rw [decide_eq_false hi];simp [Array.getD,show ¬ i<listed.size by omega]
  rw [e] at hI;refine ⟨?_,hend L' w' hI⟩;cases hr:Region.ready .any l.toArray listed with
  |nil=>rfl
  |cons i r=>
   exfalso;obtain ⟨h0,o,ho,_⟩:=mem_ready.1 (show i∈Region.ready .any l.toArray listed by rw [hr];simp);rw [List.getElem?_toArray] at ho;have hil:i<l.length:=(List.getElem?_eq_some_iff.1 ho).1;have:=hall i hil;rw [←au (by omega),h0] at this;cases this
 |succ m ih=>
  intro listed L' w' hcount hs hI
  have hn0:∃ i,i<l.length∧listed.getD i true=false:=by
   have hpos:0<listed.toList.count false:=by omega
   obtain ⟨i,hi,hb⟩:=List.getElem_of_mem (List.count_pos_iff.1 hpos);rw [Array.length_toList] at hi;refine ⟨i,by omega,?_⟩;rw [Array.getElem_toList] at hb;simp [Array.getD,hi,hb]
  obtain ⟨i0,hi0,hmin⟩:=exists_least (p:=fun i=>i<l.length∧listed.getD i true=false) hn0
  have hready:i0∈Region.ready .any l.toArray listed:=by
   refine mem_ready.2 ⟨hi0.2,l[i0]'hi0.1,by rw [List.getElem?_toArray,List.getElem?_eq_getElem hi0.1],fun e he hb=>?_⟩;have hx:=hck i0 (List.mem_range.2 hi0.1);rw [List.getElem?_eq_getElem hi0.1] at hx;simp only [Bool.and_eq_true] at hx;have he2:=List.all_eq_true.1 hx.2 e (by simpa using he);rw [hb] at he2;simp at he2;have:=hi0.1;rw [←au (by omega)];cases hb2:listed.getD e.on true with
   |true=>rfl
   |false=>exact absurd (hmin e.on ⟨by omega,hb2⟩) (by omega)
  refine ⟨fun h0=>(by rw [h0] at hready;cases hready),fun i hi=>?_⟩;obtain ⟨h0,o,ho,hall⟩:=mem_ready.1 hi;rw [List.getElem?_toArray] at ho;have hil:i<l.length:=(List.getElem?_eq_some_iff.1 ho).1;have hx:=hck i (List.mem_range.2 hil);rw [ho] at hx;simp only [Bool.and_eq_true] at hx;have hg:o.guard=none:=by simpa using hx.1
  have h0f:listed.getD i false=false:=by rw [←au (by omega)];exact h0
  have hset:(fun j=>(listed.setIfInBounds i true).getD j false)=bC (fun j=>listed.getD j false) i:=by
   funext j
   unfold bC;by_cases e:j=i
   ·subst e;simp [Array.getD,show j<listed.size by omega]
   ·rw [if_neg e,getD_set_ne false (Ne.symm e)]
  have hcnt:(listed.setIfInBounds i true).toList.count false=m:=by
   have hil':i<listed.size:=by omega
   have hfalse:listed.toList[i]? =some false:=by
    rw [Array.getElem?_toList,Array.getElem?_eq_getElem hil'];simp [Array.getD,hil'] at h0;rw [h0]
   rw [Array.toList_setIfInBounds];have:=bz (l:=listed.toList) (i:=i) hfalse;omega
  have next:∀ L2 w2,Inv (bC (fun j=>listed.getD j false) i) L2 w2→wpAny P .any l.toArray Q m (listed.setIfInBounds i true) (mkA n L2) w2:=fun L2 w2 h=>
   ih _ L2 w2 hcnt (by simpa using hs) (by rw [hset];exact h)
  unfold wpOp;rw [List.getElem?_toArray,ho];show if Region.wanted o (yielded l.toArray (mkT n.n L'))=true then _ else _
  rw [if_pos (by unfold Region.wanted;rw [hg])];refine .inl ?_;unfold Oper.wp;rw [aL];rcases hstep i o _ L' w' ho hI h0f hall with ⟨d,v,w'',hd,hr,hI2⟩ | ⟨w'',hd,hr,hI2⟩ | ⟨d,f,args,hd,hr,hc⟩
  ·rw [hr,Oper.upon_value,hd,bP];exact next _ _ hI2
  ·rw [hr,Oper.upon_skip,hd];exact next _ _ hI2
  ·rw [hr,Oper.upon_enter,hd];refine Calls.mono hc fun e w'' ⟨v,he,hI2⟩=>?_
   subst he;show wpAny P .any l.toArray Q m (listed.setIfInBounds i true) ((mkA n L').put (some d) v) w'';rw [bP];exact next _ _ hI2
theorem ma {id:Nat} (Inv:(Nat→Bool)→List (Nat×Value)→World→Prop) (hm:P.follows .mixedOrders=true) (hwf:iW l=true) (h0:Inv (fun _=>false) L { w with drawn:=w.drawn+1 })
 (hstep:∀ (i:Nat) (o:Oper) (S:Nat→Bool) (L':List (Nat×Value)) (w':World),l[i]? =some o→Inv S L' w'→S i=false→(∀ e∈o.after,Region.binds .any e=true→S e.on=true)→eC P n o (Inv (bC S i)) L' w')
 (hend:∀ L' w',Inv (fun i=>decide (i<l.length)) L' w'→Q .normal (mkA n L') w'):Cd P (.region id l.toArray true) Q n L w:=by
 refine ⟨wp_region_any hm ?_⟩
 have:=lu (Q:=Q) hwf hstep hend l.length (Array.replicate l.length false) L { w with drawn:=w.drawn+1 } (by simp) (by simp) (by
  have e:(fun i=>(Array.replicate l.length false).getD i false)=fun _=>false:=by
   funext i
   by_cases hi:i<l.length <;> simp [Array.getD,hi]
  rw [e];exact h0)
 simpa using this
def mF (L:List (Nat×Value)) (T:List (Nat×Nat×Value)) (S:Nat→Bool) (L':List (Nat×Value)):Prop:=
 (∀ t,(∀ p∈T,p.2.1≠t)→aC L' t=aC L t)∧(∀ p∈T,S p.1=true→aC L' p.2.1=p.2.2)∧∀ p∈T,S p.1=false→aC L' p.2.1=aC L p.2.1
def mS:List (Nat×Nat×Value)→Prop
 |[]=>True
 |p::r=>(∀ q∈r,q.1≠p.1∧q.2.1≠p.2.1)∧mS r
def dE (S:Nat→Bool):List Edge→Prop
 |[]=>True
 |e::r=>(bif Region.binds .any e then S e.on=true else True)∧dE S r
theorem ia {S:Nat→Bool}:∀ {es:List Edge},(∀ e∈es,Region.binds .any e=true→S e.on=true)→dE S es
 |[],_=>trivial
 |e::r,h=>by
  refine ⟨?_,ia fun e' he=>h e' (.tail _ he)⟩;cases hb:Region.binds .any e with
  |true=>exact h e (.head _) hb
  |false=>trivial
def me (P:Program) (n:Fr) (L:List (Nat×Value)) (T:List (Nat×Nat×Value)) (Mem:(Nat→Bool)→World→Prop):Nat→List Oper→Prop
 |_,[]=>True
 |i,o::r=>(∀ S L' w',mF L T S L'→Mem S w'→S i=false→dE S o.after.toList→eC P n o (fun L2 w2=>mF L T (bC S i) L2∧Mem (bC S i) w2) L' w')∧me P n L T Mem (i+1) r
end
end Go.Proofs.Ytmbcbinocebodaa
namespace Go.Proofs.Ytmbcbinocebodaa
open Go.Proofs.Try (prog)
open Go.RowKit
def nf (w:World) (base:Nat) (e:TypeId) (A:Option Addr) (n c:Nat) (xs:List Value):Prop:=
 xs.length=n∧n≤c∧c≤maxLen∧∃ g off cs,A=some ⟨g,off,none⟩∧base≤g∧Blk w g e cs∧off+c≤cs.size∧(cs.toList.drop off).take n=xs
section
variable {P:Program} {Q:Exit→Act→World→Prop} {n:Fr} {L:List (Nat×Value)} {w:World} {l:List Oper}
def mf (P:Program) (n:Fr) (Inv:(Nat→Bool)→List (Nat×Value)→World→Prop):Nat→List Oper→Prop
 |_,[]=>True
 |i,o::r=>(∀ S L' w',Inv S L' w'→S i=false→dE S o.after.toList→eC P n o (Inv (bC S i)) L' w')∧mf P n Inv (i+1) r
end
theorem fw {P:Program} {ρ:Operand→Value} {w:World} {s x:Operand} {t base:Nat} {A A2:Option Addr} {m j cap c2 e size by_:Nat} {z:Value} {xs news:List Value} (hq:cF P t=some (e,size,by_,z)) (hzs:z.cells.size=size) (hs0:0<size)
 (hs:ρ s=.slice A m cap) (hown:w.ownsRow base e size (.slice A m cap) m xs) (hB:base≤w.heap.size)
 (hx:ρ x=.slice A2 j c2) (hl:news.length=j*size) (hsrc:∃ b o,A2=some ⟨b,o,none⟩∧w.rangeAt b o news) (h1:∀ u∈news,u.oneCell'=true) (h63:m+j≤9223372036854775807) (hby:(m+j)*by_≤140737488355328) :
 ∃ A' cap' w',RO P ρ (.call { callee:=.builtin .append,args:=#[s,x],argTypes:=#[t,t] }) w (.slice A' (m+j) cap') w'∧w'.ownsRow base e size (.slice A' (m+j) cap') (m+j) (xs++news)∧w.grownBy w' (A.map (·.block))∧(A'.map (·.block)=A.map (·.block)∨A'.map (·.block)=some w.heap.size):=by
 obtain ⟨i,hu,hi,hsz,hb,hz⟩:=dY hq;obtain ⟨b,o,rfl,hr⟩:=hsrc;have hobl:∀ (A:Option Addr) (m c:Nat),(Value.slice A m c).ownBlock=A.map (·.block):=fun A m c=>by cases A <;> rfl
 obtain ⟨v',w',hrun,hown',hg,_,h5⟩:=run_append_own_at (P:=P) w base t 0 e i z size by_ hu hi hz hsz hb hzs hs0 _ m xs hown ⟨b,o,none⟩ j c2 news hl (fun i u hu=>by rw [Addr.add_mid];exact hr i u hu) h1 (by unfold maxLen;omega) hby hB;obtain ⟨A',cap',rfl⟩:=fB hown';rw [hobl,hobl] at h5;refine ⟨A',cap',w',fun dst ty pos after g=>?_,hown',by rw [←hobl A m cap];exact hg,h5⟩;have hty:(Builtin.append_ #[t,t] ty #[.slice A m cap,.slice (some ⟨b,o,none⟩) j c2]).run P w=(Builtin.append_ #[t,t] 0 #[.slice A m cap,.slice (some ⟨b,o,none⟩) j c2]).run P w:=rfl;unfold execOp;simp only [resolve,invoke,builtin,Sem.run_bind,Sem.run_pure,Result.andThen_ok,List.map_toArray,List.map_cons,List.map_nil,hs,hx,hty,hrun]
end Go.Proofs.Ytmbcbinocebodaa
namespace Go.Proofs.Ytmbcbinocebodaa
open Go.Proofs.Try (prog)
open Go.RowKit Go.ChangeShapes Go.WideShapes Go.ChangeAt
def jw (A B:Option Addr):Prop:=∀ p,A.map (·.block)=some p→∀ q,B.map (·.block)=some q→p≠q
theorem jw.none_ {B:Option Addr}:jw none B:=fun p hp=>by cases hp
theorem nJ {w w':World} {base e s n c:Nat} {A B:Option Addr} {xs:List Value} (h:w.ownsRow base e s (.slice A n c) n xs) (hg:w.grownBy w' (B.map (·.block))) (hne:jw B A):w'.ownsRow base e s (.slice A n c) n xs:=by
 refine ⟨h.1,?_⟩;rcases h.2 with h0 | ⟨g,cap,cur,h1,h2,h3,h4⟩
 ·exact .inl h0
 ·refine .inr ⟨g,cap,cur,h1,h2,?_,h4⟩;simp only [Value.slice.injEq] at h1;obtain ⟨rfl,_,_⟩:=h1
  have hlt:g<w.heap.size:=by
   rcases Nat.lt_or_ge g w.heap.size with a | a
   ·exact a
   ·rw [Array.getElem?_eq_none a] at h3;cases h3
  exact (hg.block g hlt fun e=>hne g e.symm g rfl rfl).trans h3
theorem nK {w:World} {b1 b2 e1 e2 s1 s2 n1 n2 c1 c2:Nat} {A1 A2:Option Addr} {xs1 xs2:List Value} (h1:w.ownsRow b1 e1 s1 (.slice A1 n1 c1) n1 xs1) (h2:w.ownsRow b2 e2 s2 (.slice A2 n2 c2) n2 xs2) (hne:e1≠e2):jw A1 A2:=fun p hp q hq e=>by
 rcases h1.2 with ⟨k1,_⟩ | ⟨g1,cap1,cur1,k1,_,k2,_⟩
 ·simp only [Value.slice.injEq] at k1;rw [k1.1] at hp;cases hp
 ·rcases h2.2 with ⟨j1,_⟩ | ⟨g2,cap2,cur2,j1,_,j2,_⟩
  ·simp only [Value.slice.injEq] at j1;rw [j1.1] at hq;cases hq
  ·simp only [Value.slice.injEq] at k1 j1;rw [k1.1] at hp;rw [j1.1] at hq;cases hp;cases hq;have e:g1=g2:=e;rw [e,j2] at k2;simp only [Option.some.injEq,Obj.cells.injEq] at k2;exact hne k2.2.1.symm
section
variable {P:Program} {ops:Array Oper} {Q:Exit→Act→World→Prop} {rest:List Oper} {n:Fr} {L:List (Nat×Value)} {w:World} {ty:TypeId} {pos:String} {after:Array Edge} {d:Nat} {t:TypeId} {s x y:Operand}
theorem iz {base:Nat} {A A2:Option Addr} {m j cap c2 e size by_:Nat} {z:Value} {xs news:List Value} (hq:cF P t=some (e,size,by_,z)) (hzs:z.cells.size=size) (hs0:0<size)
 (hs:ev n L s=.slice A m cap) (hown:w.ownsRow base e size (.slice A m cap) m xs) (hB:base≤w.heap.size)
 (hx:ev n L x=.slice A2 j c2) (hl:news.length=j*size) (hsrc:∃ b o,A2=some ⟨b,o,none⟩∧w.rangeAt b o news) (h1:∀ u∈news,u.oneCell'=true) (h63:m+j≤9223372036854775807) (hby:(m+j)*by_≤140737488355328)
 (k:∀ A' cap' w',w'.ownsRow base e size (.slice A' (m+j) cap') (m+j) (xs++news)→w.grownBy w' (A.map (·.block))→(A'.map (·.block)=A.map (·.block)∨A'.map (·.block)=some w.heap.size)→St P ops Q rest n ((d,.slice A' (m+j) cap')::L) w') :
 St P ops Q (⟨some d,.call { callee:=.builtin .append,args:=#[s,x],argTypes:=#[t,t] },ty,pos,after,none⟩::rest) n L w:=by
 obtain ⟨A',cap',w',hR,h2,h3,h4⟩:=fw (P:=P) (ρ:=ev n L) (s:=s) (x:=x) (w:=w) hq hzs hs0 hs hown hB hx hl hsrc h1 h63 hby;exact aa hR (k A' cap' w' h2 h3 h4)
theorem j6 {e by_:Nat} {z v z0 z1 u0 u1:Value} (hq:cF P t=some (e,2,by_,z)) (hz:z.cells=#[z0,z1]) (hx:ev n L x=v) (hv:v.cells=#[u0,u1])
 (k:∀ g w',ak w w'→g=w.heap.size→Blk w' g e #[u0,u1]→St P ops Q rest n ((d,.slice (some ⟨g,0,none⟩) 1 1)::L) w'):St P ops Q (⟨some d,.buildSlice t 1 #[(0,x)],ty,pos,after,none⟩::rest) n L w:=by
 refine gA (l:=[(0,x)]) (cells:=#[u0,u1]) hq rfl rfl ?_ k
 have e1:(Array.range (1*2)).map (z.cells[·%z.cells.size]!)=#[z0,z1]:=by
  rw [hz,show Array.range (1*2)=#[0,1] from rfl];simp
 rw [e1];simp [Instr.fill,hx,hv]
end
end Go.Proofs.Ytmbcbinocebodaa
namespace Go.Proofs.Ytmbcbinocebodaa
open Go.Proofs.Try (prog)
open Go.RowKit Go.ChangeShapes Go.WideShapes Go.ChangeAt
structure Chg (U:Nat→Prop) (w w':World):Prop where
 os:w'.os=w.os
 tape:w'.tape=w.tape
 output:w'.output=w.output
 size:w.heap.size≤w'.heap.size
 block:∀ k,k<w.heap.size→¬ U k→w'.heap[k]? =w.heap[k]?
section
variable {U V:Nat→Prop} {a w w' w2:World}
theorem Chg.rfl_:Chg U w w:=⟨rfl,rfl,rfl,Nat.le_refl _,fun _ _ _=>rfl⟩
theorem ak.toChg (h:ak w w'):Chg U w w':=⟨h.os,h.tape,h.output,h.size,fun k hk _=>h.block k hk⟩
theorem bI.toChg {g:Nat} (h:bI g w w') (hg:U g):Chg U w w':=⟨h.os,h.tape,h.output,Nat.le_of_eq h.size.symm,fun k _ hu=>h.block k (fun e=>hu (e ▸ hg))⟩
theorem Chg.of_grown {r:Option Nat} (h:w.grownBy w' r) (hr:∀ k,r=some k→U k):Chg U w w':=⟨h.os,h.tape,h.output,h.size,fun k hk hu=>h.block k hk (fun e=>hu (hr k e.symm))⟩
theorem Chg.trans (h:Chg U w w') (k:Chg V w' w2) (hV:∀ i,V i→U i∨w.heap.size≤i):Chg U w w2:=⟨k.os.trans h.os,k.tape.trans h.tape,k.output.trans h.output,Nat.le_trans h.size k.size,fun i hi hu=>by
 refine (k.block i (Nat.lt_of_lt_of_le hi h.size) fun hv=>?_).trans (h.block i hi hu);rcases hV i hv with e | e
 ·exact hu e
 ·omega⟩
theorem Chg.next (h:Chg U w w') (k:Chg U w' w2):Chg U w w2:=h.trans k fun _ h=>.inl h
theorem Chg.wide (h:Chg U w w') (hV:∀ i,U i→V i∨w.heap.size≤i):Chg V w w':=(Chg.rfl_ (U:=V)).trans h hV
theorem ak.chg (h:ak a w) (c:Chg U w w') (hU:∀ k,U k→a.heap.size≤k):ak a w':=⟨c.os.trans h.os,c.tape.trans h.tape,c.output.trans h.output,Nat.le_trans h.size c.size,fun k hk=>(c.block k (Nat.lt_of_lt_of_le hk h.size) (fun hu=>by have:=hU k hu;omega)).trans (h.block k hk)⟩
theorem Blk.chg {g:Nat} {t:TypeId} {cs:Array Value} (h:Blk w g t cs) (c:Chg U w w') (hg:¬ U g):Blk w' g t cs:=(c.block g h.lt hg).trans h
theorem ep {base e s n c:Nat} {A:Option Addr} {xs:List Value} (h:w.ownsRow base e s (.slice A n c) n xs) (hc:Chg U w w') (hA:∀ q,A.map (·.block)=some q→¬ U q):w'.ownsRow base e s (.slice A n c) n xs:=by
 refine ⟨h.1,?_⟩;rcases h.2 with h0 | ⟨g,cap,cur,h1,h2,h3,h4⟩
 ·exact .inl h0
 ·refine .inr ⟨g,cap,cur,h1,h2,?_,h4⟩;simp only [Value.slice.injEq] at h1;obtain ⟨rfl,_,_⟩:=h1
  have hlt:g<w.heap.size:=by
   rcases Nat.lt_or_ge g w.heap.size with a | a
   ·exact a
   ·rw [Array.getElem?_eq_none a] at h3;cases h3
  exact (hc.block g hlt (hA g rfl)).trans h3
end
def na (w w':World) (n:Nat):World:={ w' with heap:=w'.heap.mapIdx fun i o=>if i<n then o else (w.heap[i]?).getD o }
end Go.Proofs.Ytmbcbinocebodaa
namespace Go.Proofs.Ytmbcbinocebodaa
open Go.Proofs.Try (prog)
def nd (w:World) (v:Value) (vs:List Value):Prop:=Row w v vs∧∃ A cap,v=.slice A vs.length cap∧vs.length≤cap∧cap≤9223372036854775807
def mT (A:Option Addr) (cap k:Nat):Option Addr:=if cap=k then A else A.map (·.add k)
def c8 (s:ByteArray):List Nat:=s.data.toList.map (·.toNat)
theorem cT (s:ByteArray):(c8 s).length=s.size:=by rw [c8,List.length_map,Array.length_toList];rfl
def aT (l:List Nat):List Value:=l.map fun (x:Nat)=>.int .u8 x
theorem aN (l:List Nat):(aT l).length=l.length:=by simp [aT]
theorem cZ (l m:List Nat):aT (l++m)=aT l++aT m:=by simp [aT]
theorem d_ (l:List Nat):∀ u∈aT l,u.oneCell'=true:=by
 intro u hu;simp only [aT,List.mem_map] at hu;obtain ⟨b,_,rfl⟩:=hu;rfl
end Go.Proofs.Ytmbcbinocebodaa
namespace Go.Proofs.Ytmbcbinocebodaa
open Go.Proofs.Try (prog)
open Go.RowKit Go.ChangeShapes Go.WideShapes Go.ChangeAt
abbrev Fe:=ByteArray×List Nat×List Nat
def KS (D:List Fe):Prop:=D.Pairwise fun a b=>sLt a.1 b.1
def dZ (D:List Fe) (id:ByteArray):Bool:=D.any fun e=>decide (e.1=id)
def cX (D:List Fe) (id:ByteArray):List Nat:=((D.find? fun e=>decide (e.1=id)).map (·.2.1)).getD []
def mP (D:List Fe) (id:ByteArray):List Nat:=((D.find? fun e=>decide (e.1=id)).map (·.2.2)).getD []
def jE (D:List Fe) (id:ByteArray) (vs:List Nat):List Fe:=D.map fun e=>if e.1=id then (e.1,vs,e.2.2) else e
def lj (D:List Fe) (id:ByteArray) (vs:List Nat):List Fe:=D.map fun e=>if e.1=id then (e.1,e.2.1,vs) else e
def eL (D:List Fe) (e:Fe):List Fe:=(D.takeWhile fun x=>decide (x.1.toList<e.1.toList))++e::D.dropWhile fun x=>decide (x.1.toList<e.1.toList)
def l_ (D:List Fe) (id:ByteArray):List Fe:=D.filter fun e=>decide (e.1≠id)
theorem iB {a b:ByteArray} (h:sLt a b):a≠b:=fun e=>iC b (e ▸ h)
structure KAt (D:List Fe) (id:ByteArray) (i:Nat):Prop where
 le:i≤D.length
 lo:∀ x (h:x<D.length),x<i→sLt D[x].1 id
 hi:∀ x (h:x<D.length),i≤x→¬ sLt D[x].1 id
section
variable {D:List Fe} {id:ByteArray} {i:Nat}
theorem KS.cmp (h:KS D) {x y:Nat} (hxy:x<y) (hy:y<D.length):sLt (D[x]'(Nat.lt_trans hxy hy)).1 D[y].1:=List.pairwise_iff_getElem.1 h x y _ hy hxy
theorem lP {α:Type} {p:α→Bool}:∀ {l:List α} {i:Nat},i≤l.length→(∀ x (h:x<l.length),x<i→p l[x]=true)→(∀ h:i<l.length,p l[i]=false)→l.takeWhile p=l.take i∧l.dropWhile p=l.drop i
 |[],i,hi,_,_=>by obtain rfl:i=0:=Nat.le_zero.1 hi;exact ⟨rfl,rfl⟩
 |a::l,0,_,_,h=>by
  have h0:=h (Nat.zero_lt_succ _);simp only [List.getElem_cons_zero] at h0;simp [List.takeWhile,List.dropWhile,h0]
 |a::l,i+1,hi,h1,h2=>by
  have h0:=h1 0 (Nat.zero_lt_succ _) (Nat.zero_lt_succ _);simp only [List.getElem_cons_zero] at h0;obtain ⟨e1,e2⟩:=lP (p:=p) (l:=l) (i:=i) (Nat.le_of_succ_le_succ hi) (fun x hx hxi=>by have:=h1 (x+1) (Nat.succ_lt_succ hx) (Nat.succ_lt_succ hxi);simpa using this) (fun hx=>by have:=h2 (Nat.succ_lt_succ hx);simpa using this);simp [List.takeWhile,List.dropWhile,h0,e1,e2]
theorem KAt.ins (h:KAt D id i) {vs ds:List Nat}:eL D (id,vs,ds)=D.take i++(id,vs,ds)::D.drop i:=by
 obtain ⟨e1,e2⟩:=lP (p:=fun x:Fe=>decide (x.1.toList<id.toList)) h.le (fun x hx hxi=>decide_eq_true (h.lo x hx hxi)) (fun hx=>decide_eq_false (h.hi i hx (Nat.le_refl _)));unfold eL;rw [e1,e2]
theorem KAt.no (h:KAt D id i) (hn:¬ ∃ h:i<D.length,D[i].1=id) (hs:KS D):∀ e∈D,e.1≠id:=fun e he=>by
 obtain ⟨x,hx,rfl⟩:=List.getElem_of_mem he;rcases Nat.lt_trichotomy x i with a | a | a
 ·exact iB (h.lo x hx a)
 ·subst a;exact fun e=>hn ⟨hx,e⟩
 ·intro e;have h1:=hs.cmp a hx;rw [e] at h1;exact h.hi i (by omega) (Nat.le_refl _) h1
theorem eu:dZ D id=true↔∃ e∈D,e.1=id:=by unfold dZ;simp
theorem KAt.has (h:KAt D id i) (hs:KS D):dZ D id=true↔∃ h:i<D.length,D[i].1=id:=by
 rw [eu];refine ⟨fun ⟨e,he,h2⟩=>?_,fun ⟨h1,h2⟩=>⟨_,List.getElem_mem h1,h2⟩⟩;by_cases k:∃ h:i<D.length,D[i].1=id
 ·exact k
 ·exact absurd h2 (h.no k hs e he)
theorem lC (hn:∀ e∈D,e.1≠id):D.find? (fun e=>decide (e.1=id))=none:=List.find?_eq_none.2 fun e he=>by simpa using hn e he
theorem jq (hn:∀ e∈D,e.1≠id):cX D id=[]:=by unfold cX;rw [lC hn];rfl
theorem KS.uniq (hs:KS D) {x y:Nat} (hx:x<D.length) (hy:y<D.length) (h:D[x].1=D[y].1):x=y:=by
 rcases Nat.lt_trichotomy x y with a | a | a
 ·exact absurd h (iB (hs.cmp a hy))
 ·exact a
 ·exact absurd h.symm (iB (hs.cmp a hx))
theorem lD (hs:KS D) (hi:i<D.length) (he:D[i].1=id):D.find? (fun e=>decide (e.1=id))=some D[i]:=by
 have h1:(D.find? (fun e=>decide (e.1=id))).isSome=true:=by rw [List.find?_isSome];exact ⟨_,List.getElem_mem hi,by simpa using he⟩
 obtain ⟨a,ha⟩:=Option.isSome_iff_exists.1 h1;have h2:=List.find?_some ha;have h3:a∈D:=List.mem_of_find?_eq_some ha;obtain ⟨x,hx,rfl⟩:=List.getElem_of_mem h3;have h4:D[x].1=id:=by simpa using h2
 rw [ha,getElem_congr_idx (hs.uniq hx hi (h4.trans he.symm))]
theorem fj (hs:KS D) (hi:i<D.length) (he:D[i].1=id):cX D id=D[i].2.1:=by unfold cX;rw [lD hs hi he];rfl
theorem iO (hs:KS D) (hi:i<D.length) (he:D[i].1=id) (g:Fe→Fe):D.map (fun e=>if e.1=id then g e else e)=D.set i (g D[i]):=by
 apply List.ext_getElem
 ·simp
 ·intro x h1 h2;rw [List.length_map] at h1;rw [List.getElem_map,List.getElem_set];by_cases e:i=x
  ·subst e;rw [if_pos he,if_pos rfl]
  ·rw [if_neg e,if_neg (fun h=>e (hs.uniq hi h1 (he.trans h.symm)))]
theorem lg (hs:KS D) (hi:i<D.length) (he:D[i].1=id) (vs:List Nat):jE D id vs=D.set i (id,vs,D[i].2.2):=by
 unfold jE;rw [iO hs hi he (fun e=>(e.1,vs,e.2.2)),he]
theorem lh (hs:KS D) (hi:i<D.length) (he:D[i].1=id) (vs:List Nat):lj D id vs=D.set i (id,D[i].2.1,vs):=by
 unfold lj;rw [iO hs hi he (fun e=>(e.1,e.2.1,vs)),he]
theorem KS.sub {E:List Fe} (h:KS D) (k:E.Sublist D):KS E:=List.Pairwise.sublist k h
theorem KS.map {f:Fe→Fe} (h:KS D) (hf:∀ e,(f e).1=e.1):KS (D.map f):=by
 unfold KS;rw [List.pairwise_map];exact List.Pairwise.imp (fun {a b} k=>by rw [hf,hf];exact k) h
theorem KAt.ks (h:KAt D id i) (hs:KS D) (hn:∀ e∈D,e.1≠id) (vs ds:List Nat):KS (D.take i++(id,vs,ds)::D.drop i):=by
 unfold KS;rw [List.pairwise_append,List.pairwise_cons];refine ⟨hs.sub (List.take_sublist _ _),⟨fun e he=>?_,hs.sub (List.drop_sublist _ _)⟩,fun a ha b hb=>?_⟩
 ·obtain ⟨x,hx1,hx2⟩:=List.getElem_of_mem he;rw [List.length_drop] at hx1;rw [List.getElem_drop] at hx2;have h1:=h.hi (i+x) (by omega) (by omega);rw [hx2] at h1;rcases k7 e.1 id with a | a | a
  ·exact absurd a h1
  ·exact absurd a (hn e (List.mem_of_mem_drop he))
  ·exact a
 ·obtain ⟨x,hx1,hx2⟩:=List.getElem_of_mem ha;rw [List.length_take] at hx1;rw [List.getElem_take] at hx2;have h1:=h.lo x (by omega) (by omega);rw [hx2] at h1;rcases List.mem_cons.1 hb with rfl | hb
  ·exact h1
  ·obtain ⟨y,hy1,hy2⟩:=List.getElem_of_mem hb;rw [List.length_drop] at hy1;rw [List.getElem_drop] at hy2;have h2:=hs.cmp (show x<i+y by omega) (by omega);rw [hx2,hy2] at h2;exact h2
theorem KS.ex (hs:KS D) (id:ByteArray):∃ i,KAt D id i:=by
 induction D with
 |nil=>exact ⟨0,Nat.le_refl _,fun x h=>absurd h (Nat.not_lt_zero _),fun x h=>absurd h (Nat.not_lt_zero _)⟩
 |cons a l ih=>
  obtain ⟨i,h⟩:=ih (List.Pairwise.of_cons hs);by_cases k:sLt a.1 id
  ·refine ⟨i+1,Nat.succ_le_succ h.le,fun x hx hxi=>?_,fun x hx hxi=>?_⟩
   ·match x with
    |0=>exact k
    |x+1=>exact h.lo x (Nat.lt_of_succ_lt_succ hx) (Nat.lt_of_succ_lt_succ hxi)
   ·match x with
    |0=>omega
    |x+1=>exact h.hi x (Nat.lt_of_succ_lt_succ hx) (Nat.le_of_succ_le_succ hxi)
  ·refine ⟨0,Nat.zero_le _,fun x hx hxi=>absurd hxi (Nat.not_lt_zero _),fun x hx _ h2=>?_⟩
   match x with
   |0=>exact k h2
   |x+1=>exact k (dB (hs.cmp (Nat.zero_lt_succ x) hx) h2)
theorem KS.ins (hs:KS D) (hn:∀ e∈D,e.1≠id) (vs ds:List Nat):KS (eL D (id,vs,ds)):=by
 obtain ⟨i,h⟩:=hs.ex id;rw [h.ins];exact h.ks hs hn vs ds
theorem ky {e x:Fe}:x∈eL D e↔x=e∨x∈D:=by
 unfold eL;rw [List.mem_append,List.mem_cons]
 conv=>rhs;rw [←List.takeWhile_append_dropWhile (p:=fun x:Fe=>decide (x.1.toList<e.1.toList)) (l:=D)]
 rw [List.mem_append];exact ⟨fun h=>h.elim (fun h=>.inr (.inl h)) fun h=>h.elim .inl fun h=>.inr (.inr h),fun h=>h.elim (fun h=>.inr (.inl h)) fun h=>h.elim .inl fun h=>.inr (.inr h)⟩
theorem kz (D:List Fe) (e:Fe):(eL D e).length=D.length+1:=by
 unfold eL;rw [List.length_append,List.length_cons];have:=congrArg List.length (List.takeWhile_append_dropWhile (p:=fun x:Fe=>decide (x.1.toList<e.1.toList)) (l:=D));rw [List.length_append] at this;omega
end
structure RB (w:World) (A:Option Addr) (c:Nat) (l:List Nat):Prop where
 le:l.length≤c
 mx:c≤9223372036854775807
 at_:0<l.length→∃ b o,A=some ⟨b,o,none⟩∧w.rangeAt b o (aT l)
 bt:∀ b∈l,b<256
def TyB (w:World) (A:Option Addr):Prop:=∀ q,A.map (·.block)=some q→∃ cs fr,w.heap[q]? =some (.cells cs 5 fr)
section
variable {V:Nat→Prop} {w w':World} {A:Option Addr} {c:Nat} {l:List Nat}
theorem TyB.lt (h:TyB w A):∀ q,A.map (·.block)=some q→q<w.heap.size:=fun q hq=>by
 obtain ⟨cs,fr,h1⟩:=h q hq;exact (Array.getElem?_eq_some_iff.1 h1).1
theorem TyB.chg (h:TyB w A) (hc:Chg V w w') (hV:∀ q,A.map (·.block)=some q→¬ V q):TyB w' A:=fun q hq=>by
 obtain ⟨cs,fr,h1⟩:=h q hq;exact ⟨cs,fr,(hc.block q (h.lt q hq) (hV q hq)).trans h1⟩
theorem TyB.from_ (h:TyB w A) (hF:ak w w'):TyB w' A:=h.chg (V:=fun _=>False) hF.toChg fun _ _ h=>h
theorem TyB.none_ (w:World):TyB w none:=fun q hq=>by cases hq
theorem TyB.own {base n:Nat} {xs:List Value} (h:w.ownsRow base 5 1 (.slice A n c) n xs):TyB w A:=fun q hq=>by
 rcases h.2 with ⟨h1,h0⟩ | ⟨g,cap,cur,h1,hg,h2,_⟩
 ·simp only [Value.slice.injEq] at h1;rw [h1.1] at hq;cases hq
 ·simp only [Value.slice.injEq] at h1;rw [h1.1] at hq;cases hq;exact ⟨_,_,h2⟩
theorem gb {b o:Nat} {xs:List Value} (h:w.rangeAt b o xs) (hc:Chg V w w') (hb:b<w.heap.size) (hv:¬ V b):w'.rangeAt b o xs:=fun j v hj=>by
 have:=h j v hj;unfold World.cell? at this ⊢;show (match w'.heap[b]? with | some (.cells cs _ _)=>_ | _=>_)=_;rw [hc.block b hb hv];exact this
theorem RB.chg (h:RB w A c l) (hc:Chg V w w') (hV:∀ q,A.map (·.block)=some q→¬ V q):RB w' A c l:=by
 refine ⟨h.le,h.mx,fun h0=>?_,h.bt⟩;obtain ⟨b,o,rfl,hr⟩:=h.at_ h0;have hv:(aT l)[0]? =some ((aT l)[0]'(by rw [aN];exact h0)):=List.getElem?_eq_getElem _;exact ⟨b,o,rfl,gb hr hc (World.block_lt_of_cell? _ _ (hr 0 _ hv)) (hV b rfl)⟩
theorem RB.from_ (h:RB w A c l) (hF:ak w w'):RB w' A c l:=h.chg (V:=fun _=>False) hF.toChg fun _ _ h=>h
theorem RB.own {base n:Nat} (h:w.ownsRow base 5 1 (.slice A n c) n (aT l)) (hb:∀ b∈l,b<256):n=l.length∧RB w A c l:=by
 have hl:n=l.length:=by have:=h.1;rw [aN] at this;omega
 subst hl;refine ⟨rfl,?_⟩;rcases h.2 with ⟨h1,h0⟩ | ⟨g,cap,cur,h1,hg,h2,h3,h4,h5,h6⟩
 ·simp only [Value.slice.injEq] at h1;obtain ⟨rfl,h7,rfl⟩:=h1;exact ⟨by omega,by omega,fun h=>by omega,hb⟩
 ·simp only [Value.slice.injEq,true_and] at h1;obtain ⟨rfl,rfl⟩:=h1;unfold maxLen at h4;refine ⟨h3,by omega,fun _=>⟨g,0,rfl,fun j v hj=>?_⟩,hb⟩
  ·rw [Nat.zero_add];unfold World.cell?;show (match w.heap[g]? with | some (.cells cs _ _)=>_ | _=>_)=_;rw [h2];show cur[j]? =some v;rw [Nat.mul_one] at h6;rw [←h6] at hj;rw [List.getElem?_take] at hj;split at hj
   ·simpa using hj
   ·cases hj
theorem RB.nil_ (w:World):RB w none 0 []:=⟨Nat.le_refl _,by omega,fun h=>absurd h (Nat.lt_irrefl _),fun b hb=>(by cases hb)⟩
theorem RB.pre {r:List Nat} (h:RB w A c (l++r)):RB w A c l:=by
 have h1:=h.le;rw [List.length_append] at h1;refine ⟨by omega,h.mx,fun h0=>?_,fun b hb=>h.bt b (List.mem_append_left _ hb)⟩;obtain ⟨b,o,e,hr⟩:=h.at_ (by rw [List.length_append];omega);refine ⟨b,o,e,fun j v hj=>hr j v ?_⟩;rw [cZ];exact List.getElem?_append_left (List.getElem?_eq_some_iff.1 hj).1 ▸ hj
theorem RB.cap {c':Nat} (h:RB w A c l) (h1:l.length≤c') (h2:c'≤9223372036854775807):RB w A c' l:=⟨h1,h2,h.at_,h.bt⟩
end
structure Fl where
 nm:ByteArray
 vA:Option Addr
 vc:Nat
 dA:Option Addr
 dc:Nat
 vs:List Nat
 ds:List Nat
 own:Bool
def Fl.abs (f:Fl):Fe:=(f.nm,f.vs,f.ds)
def flV (f:Fl):List Value:=[.string f.nm,.slice f.vA f.vs.length f.vc,.slice f.dA f.ds.length f.dc]
def Fz:Fl:=⟨⟨#[]⟩,none,0,none,0,[],[],true⟩
instance:Inhabited Fl:=⟨Fz⟩
theorem db (f:Fl):(flV f).length=3:=rfl
theorem ez (f:Fl):∀ u∈flV f,u.oneCell'=true:=by simp [flV,Value.oneCell']
theorem lB (l:List Fl):∀ u∈l.flatMap flV,u.oneCell'=true:=kE fun x _ u hu=>ez x u hu
def Fl.B (f:Fl) (k:Nat):Prop:=f.vA.map (·.block)=some k∨f.dA.map (·.block)=some k
structure cQ (w:World) (f:Fl):Prop where
 v:RB w f.vA f.vc f.vs
 d:RB w f.dA f.dc f.ds
 vt:TyB w f.vA
 dt:TyB w f.dA
 o:f.own=true→w.ownsRow 0 5 1 (.slice f.vA f.vs.length f.vc) f.vs.length (aT f.vs)∧(jw f.vA f.dA∨(f.dA=f.vA∧∃ r,f.vs=f.ds++r))
 n:f.own=false→(∃ a,f.vA=some a)∧f.vc=f.vs.length
def Sep (f g:Fl):Prop:=(f.own=true→∀ k,f.vA.map (·.block)=some k→¬ g.B k)∧(g.own=true→∀ k,g.vA.map (·.block)=some k→¬ f.B k)
theorem Sep.symm {f g:Fl} (h:Sep f g):Sep g f:=⟨h.2,h.1⟩
section
variable {V:Nat→Prop} {w w':World} {f:Fl}
theorem cQ.chg (h:cQ w f) (c:Chg V w w') (hV:∀ k,f.B k→¬ V k):cQ w' f:=
 ⟨h.v.chg c fun q hq=>hV q (.inl hq),h.d.chg c fun q hq=>hV q (.inr hq),h.vt.chg c fun q hq=>hV q (.inl hq),h.dt.chg c fun q hq=>hV q (.inr hq),fun ho=>⟨ep (h.o ho).1 c fun q hq=>hV q (.inl hq),(h.o ho).2⟩,h.n⟩
theorem cQ.lt (h:cQ w f) {k:Nat} (hk:f.B k):k<w.heap.size:=hk.elim (h.vt.lt k) (h.dt.lt k)
theorem cQ.ty (h:cQ w f) {k:Nat} (hk:f.B k):∃ cs fr,w.heap[k]? =some (.cells cs 5 fr):=hk.elim (h.vt k) (h.dt k)
end
structure DkH (w:World) (d:Nat) (fs:List Fl) (Ap:Option Addr) (cp:Nat) (ca:Int) (fu:Nat) (off:Bool):Prop where
 blk:Blk w d 58 #[.slice Ap fs.length cp,.int .i64 ca,.int .i64 (fu:Nat),.bool off]
 row:w.ownsRow 0 63 3 (.slice Ap fs.length cp) fs.length (fs.flatMap flV)
 ok:∀ f∈fs,cQ w f
 ap:fs.Pairwise Sep
def eE (d:Nat) (Ap:Option Addr) (fs:List Fl) (k:Nat):Prop:=k=d∨Ap.map (·.block)=some k∨∃ f∈fs,f.B k
section
variable {V:Nat→Prop} {w w':World} {d:Nat} {fs fs':List Fl} {Ap Ap':Option Addr} {cp cp':Nat} {ca ca':Int} {fu fu':Nat} {off off':Bool}
theorem DkH.chg (h:DkH w d fs Ap cp ca fu off) (c:Chg V w w') (hV:∀ k,eE d Ap fs k→¬ V k):DkH w' d fs Ap cp ca fu off:=
 ⟨h.blk.chg c (hV _ (.inl rfl)),ep h.row c fun q hq=>hV q (.inr (.inl hq)),fun f hf=>(h.ok f hf).chg c fun k hk=>hV k (.inr (.inr ⟨f,hf,hk⟩)),h.ap⟩
theorem DkH.from_ (h:DkH w d fs Ap cp ca fu off) (hF:ak w w'):DkH w' d fs Ap cp ca fu off:=h.chg (V:=fun _=>False) hF.toChg fun _ _ h=>h
theorem DkH.lt (h:DkH w d fs Ap cp ca fu off) {k:Nat} (hk:eE d Ap fs k):k<w.heap.size:=by
 rcases hk with rfl | hk | ⟨f,hf,hk⟩
 ·exact h.blk.lt
 ·exact (c9 h.row k hk).2
 ·exact (h.ok f hf).lt hk
theorem DkH.bd (h:DkH w d fs Ap cp ca fu off) {f:Fl} (hf:f∈fs) {k:Nat} (hk:f.B k):k≠d:=fun e=>by
 obtain ⟨cs,fr,h1⟩:=(h.ok f hf).ty hk;have h2:=h.blk;unfold Blk at h2;rw [e,h2] at h1;simp only [Option.some.injEq,Obj.cells.injEq] at h1;exact absurd h1.2.1 (by decide)
theorem DkH.bp (h:DkH w d fs Ap cp ca fu off) {f:Fl} (hf:f∈fs) {k:Nat} (hk:f.B k):Ap.map (·.block)≠some k:=fun e=>by
 obtain ⟨cs,fr,h1⟩:=(h.ok f hf).ty hk;rcases h.row.2 with ⟨k1,_⟩ | ⟨g1,cap1,cur1,k1,_,k2,_⟩
 ·simp only [Value.slice.injEq] at k1;rw [k1.1] at e;cases e
 ·simp only [Value.slice.injEq] at k1;rw [k1.1] at e;cases e;rw [k2] at h1;simp only [Option.some.injEq,Obj.cells.injEq] at h1;exact absurd h1.2.1 (by decide)
theorem b_ {base e sz n c:Nat} {A:Option Addr} {xs:List Value} {g:Nat} {t:TypeId} {cs:Array Value} (h:w.ownsRow base e sz (.slice A n c) n xs) (hb:Blk w g t cs) (hne:t≠e):∀ q,A.map (·.block)=some q→q≠g:=fun q hq e2=>by
 rcases h.2 with ⟨k1,_⟩ | ⟨g1,cap1,cur1,k1,_,k2,_⟩
 ·simp only [Value.slice.injEq] at k1;rw [k1.1] at hq;cases hq
 ·simp only [Value.slice.injEq] at k1;rw [k1.1] at hq;cases hq;have e3:g1=g:=e2;unfold Blk at hb;rw [e3,hb] at k2;simp only [Option.some.injEq,Obj.cells.injEq] at k2;exact hne k2.2.1
theorem DkH.setD (h:DkH w d fs Ap cp ca fu off) (c:Chg (fun k=>k=d) w w') (hb:Blk w' d 58 #[.slice Ap fs.length cp,.int .i64 ca',.int .i64 (fu':Nat),.bool off']):DkH w' d fs Ap cp ca' fu' off':=
 ⟨hb,ep h.row c fun q hq=>b_ h.row h.blk (by decide) q hq,fun f hf=>(h.ok f hf).chg c fun k hk=>h.bd hf hk,h.ap⟩
theorem DkH.setR (h:DkH w d fs Ap cp ca fu off) (c:Chg (fun k=>k=d∨Ap.map (·.block)=some k) w w') (hb:Blk w' d 58 #[.slice Ap' fs'.length cp',.int .i64 ca',.int .i64 (fu':Nat),.bool off'])
 (hr:w'.ownsRow 0 63 3 (.slice Ap' fs'.length cp') fs'.length (fs'.flatMap flV)) (hf:∀ f∈fs',f∈fs∨(∃ g∈fs,f.vA=g.vA∧f.vc=g.vc∧f.dA=g.dA∧f.dc=g.dc∧f.vs=g.vs∧f.ds=g.ds∧f.own=g.own)∨(f.vA=none∧f.vc=0∧f.dA=none∧f.dc=0∧f.vs=[]∧f.ds=[]∧f.own=true)) (hp:fs'.Pairwise Sep):DkH w' d fs' Ap' cp' ca' fu' off':=by
 refine ⟨hb,hr,fun f hm=>?_,hp⟩;have key:∀ g∈fs,cQ w' g:=fun g hg=>(h.ok g hg).chg c fun k hk e=>e.elim (h.bd hg hk) (h.bp hg hk)
 rcases hf f hm with e | ⟨g,hg,e1,e2,e3,e4,e5,e6,e7⟩ | ⟨e1,e2,e3,e4,e5,e6,e7⟩
 ·exact key f e
 ·have k:=key g hg;refine ⟨?_,?_,by rw [e1];exact k.vt,by rw [e3];exact k.dt,?_,?_⟩
  ·rw [e1,e2,e5];exact k.v
  ·rw [e3,e4,e6];exact k.d
  ·rw [e1,e2,e3,e5,e6,e7];exact k.o
  ·rw [e1,e2,e5,e7];exact k.n
 ·refine ⟨?_,?_,by rw [e1];exact TyB.none_ _,by rw [e3];exact TyB.none_ _,fun _=>?_,fun ho=>?_⟩
  ·rw [e1,e2,e5];exact RB.nil_ _
  ·rw [e3,e4,e6];exact RB.nil_ _
  ·rw [e1,e2,e5];exact ⟨World.ownsRow_nil _ _ _ _,.inl jw.none_⟩
  ·rw [e7] at ho;cases ho
end
end Go.Proofs.Ytmbcbinocebodaa
namespace Go.Proofs.Ytmbcbinocebodaa
open Go.Proofs.Try (prog)
open Go.RowKit Go.ChangeShapes Go.WideShapes Go.ChangeAt
section
variable {P:Program} {ρ:Operand→Value} {x y:Operand} {t yt:TypeId} {s s':ByteArray} {w:World}
theorem jl (hx:ρ x=.string s) (hy:ρ y=.string s'):RO P ρ (.binOp .geq t x y yt) w (.bool !(Op.bytesLess s.toList s'.toList)) w:=
 dr hx hy (by unfold eqGuard;rfl) (by simp [binOp,Op.stringOp])
end
def kJ (a b:ByteArray):Int:=Lib.compareBytes a.toList b.toList
theorem kH:∀ {a b:List UInt8},Lib.compareBytes a b<0↔a<b
 |[],[]=>by simp [Lib.compareBytes]
 |[],_::_=>by simp [Lib.compareBytes]
 |_::_,[]=>by simp [Lib.compareBytes]
 |a::r,b::s=>by
  unfold Lib.compareBytes;rw [List.cons_lt_cons_iff];by_cases h:a<b
  ·rw [if_pos h];simp [h]
  ·rw [if_neg h];by_cases k:b<a
   ·rw [if_pos k];have:¬ a=b:=fun e=>by subst e;exact absurd k (by simp)
    simp [h,this]
   ·rw [if_neg k,kH];have:a=b:=UInt8.le_antisymm (UInt8.not_lt.1 k) (UInt8.not_lt.1 h);simp [this]
theorem kI:∀ {a b:List UInt8},Lib.compareBytes a b=0↔a=b
 |[],[]=>by simp [Lib.compareBytes]
 |[],_::_=>by simp [Lib.compareBytes]
 |_::_,[]=>by simp [Lib.compareBytes]
 |a::r,b::s=>by
  unfold Lib.compareBytes;by_cases h:a<b
  ·rw [if_pos h];have:¬ a=b:=fun e=>by subst e;exact absurd h (by simp)
   simp [this]
  ·rw [if_neg h];by_cases k:b<a
   ·rw [if_pos k];have:¬ a=b:=fun e=>by subst e;exact absurd k (by simp)
    simp [this]
   ·rw [if_neg k,kI];have:a=b:=UInt8.le_antisymm (UInt8.not_lt.1 k) (UInt8.not_lt.1 h);simp [this]
theorem js {a b:ByteArray}:kJ a b<0↔sLt a b:=kH
theorem fk {a b:ByteArray}:kJ a b=0↔a=b:=kI.trans ⟨ji,fun h=>by rw [h]⟩
end Go.Proofs.Ytmbcbinocebodaa
namespace Go.Proofs
open Go.Shelf
def Try.lays213_ren:Go.Shelf.Ren:=⟨fun | 213=>48 | 265=>51 | n=>n,fun | 9=>9 | 3=>3 | n=>n,fun | n=>n⟩
def Try.lays106_ren:Go.Shelf.Ren:=⟨fun | 106=>41 | 213=>48 | 265=>51 | n=>n,fun | 9=>9 | 3=>3 | n=>n,fun | n=>n⟩
theorem Try.lays106:Go.Proofs.Lays.n106 prog Try.lays106_ren:={
 mixed:=by kernel_rfl
 f106:=Try.func41.trans (congrArg some (by kernel_rfl))
 f213:=Try.func48.trans (congrArg some (by kernel_rfl))
 f265:=Try.func51.trans (congrArg some (by kernel_rfl))
 t3:=Try.underlying3
 a3:=Try.isAgg3
 z3:=Try.sizeOf3
 v3:=Try.zeroValue3
 t9:=Try.underlying9
 a9:=Try.isAgg9
 z9:=Try.sizeOf9
 v9:=Try.zeroValue9 }
open Go.RowKit in
theorem Try.strings_Compare (a b:ByteArray) (w:World) :
 Calls prog 41 #[.string a,.string b] w fun e w'=>e=.returned (.int .i64 (Lib.compareBytes a.data.toList b.data.toList))∧w'=w:=Any.strings_Compare Try.lays106 a b w
def Try.lays315_ren:Go.Shelf.Ren:=⟨fun | 315=>50 | n=>n,fun | 9=>9 | 40=>77 | 4=>4 | 3=>3 | 0=>0 | 21=>21 | n=>n,fun | n=>n⟩
def Try.laysGw15_ren:Go.Shelf.Ren:=⟨fun | 15=>47 | 20=>50 | n=>n,fun | 9=>9 | 23=>77 | 3=>3 | 4=>4 | 0=>0 | 21=>21 | n=>n,fun | n=>n⟩
def Try.laysGw17_ren:Go.Shelf.Ren:=⟨fun | 17=>37 | 15=>47 | 20=>50 | n=>n,fun | 9=>9 | 23=>77 | 4=>4 | 3=>3 | 0=>0 | 21=>21 | n=>n,fun | n=>n⟩
theorem Try.laysGw17:Go.Proofs.LaysGw.n17 prog Try.laysGw17_ren:={
 mixed:=by kernel_rfl
 f15:=Try.func47.trans (congrArg some (by kernel_rfl))
 f17:=Try.func37.trans (congrArg some (by kernel_rfl))
 f20:=Try.func50.trans (congrArg some (by kernel_rfl))
 t0:=Try.underlying0
 a0:=Try.isAgg0
 z0:=Try.sizeOf0
 v0:=Try.zeroValue0
 i0:=by kernel_rfl
 t3:=Try.underlying3
 a3:=Try.isAgg3
 z3:=Try.sizeOf3
 v3:=Try.zeroValue3
 i3:=by kernel_rfl
 t4:=Try.underlying4
 a4:=Try.isAgg4
 z4:=Try.sizeOf4
 v4:=Try.zeroValue4
 i4:=by kernel_rfl
 t9:=Try.underlying9
 a9:=Try.isAgg9
 z9:=Try.sizeOf9
 v9:=Try.zeroValue9
 i9:=by kernel_rfl
 t21:=Try.underlying21
 a21:=Try.isAgg21
 z21:=Try.sizeOf21
 v21:=Try.zeroValue21
 i21:=by kernel_rfl
 t23:=Try.underlying77
 a23:=Try.isAgg77
 z23:=Try.sizeOf77
 v23:=Try.zeroValue77
 i23:=by kernel_rfl }
open Go.RowKit Go.Lib in
theorem Try.strings_ContainsFunc_runes (g:Nat) (lb:Array Value) (eg:∀ args w,(callFunc g args).run prog w=.ok (.enter g args) w) (p:Nat→Bool) (s:ByteArray) (w:World) (hp:PredAtRunes prog g lb p w) :
 Calls prog 37 #[.string s,.func (.func g) #[] lb] w fun e w'=>e=.returned (.bool (decide (0≤Lib.idxFunc p true s)))∧Below w.heap.size w w':=Any.strings_ContainsFunc_runes Try.laysGw17 g lb eg p s w hp
def Try.laysSlK4_ren:Go.Shelf.Ren:=⟨fun | 4=>27 | n=>n,fun | 22=>32 | 4=>4 | 5=>5 | n=>n,fun | n=>n⟩
end Go.Proofs
namespace Go.Proofs.Ytmbcbinocebodaa
open Go.Proofs.Try (prog)
open Go.RowKit
open Go.ChangeShapes Go.WideShapes Go.ChangeAt
open Go.Lib
theorem eQ:prog.underlying 32=some (.slice 5):=by kernel_rfl
theorem dG:cF prog 32=some (5,1,1,(.int .u8 0)):=by kernel_rfl
theorem jU:(bU prog 45).isSome=true:=by kernel_rfl
theorem gy:bU prog 45=some (9,1):=by kernel_rfl
theorem bl:dJ prog 9=some false:=by kernel_rfl
theorem jV:aO prog 37=true:=by kernel_rfl
def mX (l:List Nat):ByteArray:=⟨(l.map UInt8.ofNat).toArray⟩
theorem nh {l:List Nat} (h:∀ b∈l,b<256):c8 (mX l)=l:=by
 unfold mX c8;simp only [List.map_map]
 conv=>rhs;rw [←List.map_id l]
 refine List.map_congr_left fun x hx=>?_
 simp only [Function.comp,id];have:=h x hx;simp only [UInt8.toNat_ofNat'];omega
theorem nR {l m:List Nat} (hl:∀ b∈l,b<256) (hm:∀ b∈m,b<256):((mX l).toList==(mX m).toList)=decide (l=m):=by
 rw [Bool.eq_iff_iff,ov,decide_eq_true_eq];exact ⟨fun h=>by rw [←nh hl,h,nh hm],fun h=>by rw [h]⟩
theorem lG {ρ:Operand→Value} {w:World} {x:Operand} {A:Option Addr} {n c:Nat} {l:List Nat} (h:RB w A c l) (hn:n=l.length) (hx:ρ x=.slice A n c):RO prog ρ (.convert 32 9 x) w (.string (mX l)) w:=fun _ _ _ _ _=>by
 subst hn
 have key:(convert 32 9 (.slice A l.length c)).run prog w=.ok (.string (mX l)) w:=by
  cases A with
  |none=>
   have h0:l=[]:=by
    cases l with
    |nil=>rfl
    |cons x t=>
     obtain ⟨b,o,hA,_⟩:=h.at_ (Nat.zero_lt_succ _);cases hA
   subst h0;rw [run_convert_bytes_string w 32 9 5 none _ c (by kernel_rfl) (by kernel_rfl) (by kernel_rfl)];rfl
  |some a=>
   have hm:(l.map UInt8.ofNat).length=l.length:=by simp
   have:=run_convert_bytes_back (P:=prog) w 32 9 5 a c (l.map UInt8.ofNat) (by kernel_rfl) (by kernel_rfl) (by kernel_rfl) (fun j hj=>by
    have hj':j<l.length:=by simpa using hj
    obtain ⟨b,o,hA,hc⟩:=h.at_ (by omega);simp only [Option.some.injEq] at hA;subst hA;rw [Go.WideShapes.add_plain];have hb:=h.bt _ (List.getElem_mem hj');rw [hc j (.int .u8 (l[j]:Nat)) (by simp [aT,hj'])];simp only [List.getElem_map,UInt8.toNat_ofNat']
    congr 2
    omega)
   rw [hm] at this;exact this
 simp [execOp,hx,key]
theorem nW {a b:Int} (hb:0<b):(a.tmod b<0→a.tdiv b-1=a/b∧a.tmod b+b=a%b)∧(0≤a.tmod b→a.tdiv b=a/b∧a.tmod b=a%b):=by
 have h1:=Int.tmod_eq_emod (a:=a) (b:=b);have h2:=Int.tdiv_eq_ediv (a:=a) (b:=b);have h3:0≤a%b:=Int.emod_nonneg a (by omega);have h4:a%b<b:=Int.emod_lt_of_pos a hb;have h5:b.sign=1:=Int.sign_eq_one_of_pos hb;have h6:(b.natAbs:Int)=b:=by omega
 by_cases hc:0≤a∨b∣a
 ·rw [if_pos hc] at h1 h2;constructor <;> intro h <;> constructor <;> omega
 ·rw [if_neg hc] at h1 h2;constructor <;> intro h <;> constructor <;> omega
theorem oD {a b:Int} (hb:0<b) (ha:-9223372036854775808≤a∧a≤9223372036854775807):-9223372036854775808≤a/b∧a/b≤9223372036854775807∧0≤a%b∧a%b<b∧-9223372036854775808≤a.tdiv b∧a.tdiv b≤9223372036854775807:=by
 have h3:0≤a%b:=Int.emod_nonneg a (by omega);have h4:a%b<b:=Int.emod_lt_of_pos a hb;have h7:=Int.emod_add_mul_ediv a b;have k1:=Int.natAbs_ediv_le_natAbs a b;have k2:=Int.natAbs_tdiv_le_natAbs a b
 have hneg:a<0→a/b<0:=fun h=>by
  rcases Int.lt_or_le (a/b) 0 with k | k
  ·exact k
  ·have:=Int.mul_nonneg (Int.le_of_lt hb) k;omega
 have hq:=@nW a b hb;rcases Int.lt_or_le a 0 with k | k
 ·have k3:=hneg k;rcases Int.lt_or_le (a.tmod b) 0 with k4 | k4
  ·have:=hq.1 k4;omega
  ·have:=hq.2 k4;omega
 ·omega
theorem ni (a b:Int) (w:World) (hb0:0<b) (hb1:b≤1000000000) (ha:-9223372036854775808≤a∧a≤9223372036854775807) :
 Rt prog 45 [.int .i64 a,.int .i64 b] w (fun v w'=>v=.tuple #[.int .i64 (a/b),.int .i64 (a%b)]∧ak w w'):=by
 have hab:=oD hb0 ha;have hfl:=@nW a b hb0
 generalize hQ:a.tdiv b=q at*
 generalize hR:a.tmod b=r at*
 generalize hX:a/b=x at*
 generalize hY:a%b=y at*
 refine enter (n:=21) Try.func45 rfl rfl rfl (ai (ag (asi rfl (asi rfl (ah (ae (ai ?_)))))));apply bZ 8 [(6,eqp _),(7,eqp _),(8,eqp _),(9,eqp _),(10,eqp _),(11,eqp _),(4,eqp _),(5,eqp _)] (by repeat first | exact ck | refine cj ?_ | refine bS ?_) (by kernel_rfl) (by kernel_rfl) ⟨af _,af _,af _,af _,af _,af _,af _,af _,trivial⟩
 case hop=>
  constructor
  ·rintro-w2 D2;exact al (av (v:=.int _ _) rfl) rfl
  constructor
  ·rintro-w3 D3;exact al (av (v:=.int _ _) rfl) rfl
  constructor
  ·rintro-w4 D4;rintro _ rfl _ rfl;exact al (cn (nT rfl rfl (by omega)) (by rw [hQ,IntWalk.i64_in _ (by omega)])) rfl
  constructor
  ·rintro-w5 D5;exact al (av (v:=.int _ _) rfl) rfl
  constructor
  ·rintro-w6 D6;exact al (av (v:=.int _ _) rfl) rfl
  constructor
  ·rintro-w7 D7;rintro _ rfl _ rfl;exact al (cn (ow rfl rfl (by omega)) (by rw [hR])) rfl
  constructor
  ·rintro-w8 D8;rintro _ rfl;exact al (ct (v:=.int _ _) rfl) rfl
  constructor
  ·rintro-w9 D9;rintro _ rfl;exact al (ct (v:=.int _ _) rfl) rfl
  exact trivial
 case hend=>
  intro w10 D10;rintro _ rfl _ rfl _ rfl _ rfl _ rfl _ rfl _ rfl _ rfl;show St ..;refine ah (ae (ai (ai (ag (mvi rfl (aa (bG rfl rfl) (ah (ae (mC rfl (fun Q11=>?_) (fun Q11=>?_))))))))))
  ·refine ai (ag (mvi rfl (aa (kb rfl rfl (by omega)) (mvi rfl (mvi rfl (aa (eo rfl rfl (by omega)) (asi rfl (asi rfl (ah (ae (aA (az ?_))))))))))));refine dU (v:=.int _ _) (v':=.int _ _) rfl rfl rfl ?_;have h7:=hfl.1 (by omega);exact ⟨by rw [h7.1,h7.2],(ak.rfl_.next D10)⟩
  refine aD (ae (ai (ag (mvi rfl (mvi rfl (asi rfl (asi rfl (ah (ae (aA (dU (v:=.int _ _) (v':=.int _ _) rfl rfl rfl ?_)))))))))));have h7:=hfl.2 (by omega);exact ⟨by rw [h7.1,h7.2],(ak.rfl_.next D10)⟩
theorem nL (A B:Option Addr) (ca cb n m:Nat) (l k:List Nat) (w:World) (hr:RB w A ca l) (hr2:RB w B cb k) (hn:n=l.length) (hm:m=k.length) :
 Rt prog 33 [.slice A n ca,.slice B m cb] w (fun v w'=>v=.bool (decide (l=k))∧w=w'):=by
 refine enter (n:=10) Try.func33 rfl rfl rfl (ai (ag (asb rfl (ah (ae (ai (ag (mvs rfl (aa (lG hr hn rfl) (mvs rfl (aa (lG hr2 hm rfl) (aa (cn (k_ rfl rfl) (congrArg Value.bool (nR hr.bt hr2.bt))) ?_))))))))))));refine asb rfl (ah (ae (aA (a_ (v:=.bool _) rfl rfl (⟨rfl,rfl⟩)))))
theorem aP (A:Option Addr) (c n:Nat) (l:List Nat) (w:World) (hr:RB w A c l) (hn:n=l.length) (hl:n≤100000000000) :
 Rt prog 27 [.slice A n c] w (fun v w'=>(∃ A' c',v=.slice A' n c'∧w'.ownsRow w.heap.size 5 1 (.slice A' n c') n (aT l))∧ak w w'):=by
 refine enter (n:=8) Try.func27 rfl rfl rfl (ai (ag (ass rfl (ah (ae (ai (ai (ag (mvs rfl (aa (iG eQ rfl rfl) (ah (ae (aE rfl (fun Q1=>?_) (fun Q1=>?_))))))))))))))
 ·(try first | (replace Q1 := jJ Q1; trace "@MK N aP:c4+ 1.1") | (replace Q1 := c3 Q1; trace "@MK N aP:c4+ 1.2"))
  (try first | (replace Q1 := dw Q1; trace "@MK N aP:c4+ 2.1") | (replace Q1 := dx Q1; trace "@MK N aP:c4+ 2.2") | (replace Q1 := gH Q1; trace "@MK N aP:c4+ 2.3") | (replace Q1 := gI Q1; trace "@MK N aP:c4+ 2.4") | (replace Q1 := dT_ Q1; trace "@MK N aP:c4+ 2.5") | (replace Q1 := dF_ Q1; trace "@MK N aP:c4+ 2.6"))
  obtain rfl:A=none:=Option.isNone_iff_eq_none.1 Q1;have hl0:l.length=0:=Nat.eq_zero_of_not_pos fun h=>by obtain ⟨b,o,e,_⟩:=hr.at_ h;cases e
  obtain rfl:l=[]:=List.eq_nil_of_length_eq_zero hl0;subst hn;refine ai (ag (ass rfl (ah (ae (aA (az (a_ (v:=.slice _ _ _) rfl rfl (⟨⟨none,0,rfl,World.ownsRow_nil _ _ _ _⟩,ak.rfl_⟩))))))))
 (try first | (replace Q1 := jJ Q1; trace "@MK N aP:c4- 1.1") | (replace Q1 := c3 Q1; trace "@MK N aP:c4- 1.2"))
 (try first | (replace Q1 := dw Q1; trace "@MK N aP:c4- 2.1") | (replace Q1 := dx Q1; trace "@MK N aP:c4- 2.2") | (replace Q1 := gH Q1; trace "@MK N aP:c4- 2.3") | (replace Q1 := gI Q1; trace "@MK N aP:c4- 2.4") | (replace Q1 := dT_ Q1; trace "@MK N aP:c4- 2.5") | (replace Q1 := dF_ Q1; trace "@MK N aP:c4- 2.6"))
 have hA4:A=none→c=0:=fun h=>by rw [h] at Q1;cases Q1
 subst hn;refine aD (ae (ai (ag (kZ dG _ (ak.rfl_.size) ?_))));intro b5 w2 E5 hb5 ho5;refine mvs rfl ?_;refine jy (a0:=w) (news:=aT l) dG rfl (by decide) rfl ho5 (ak.rfl_.next E5) rfl (by rw [aN];omega) (fun h=>(let ⟨b,o,hA,hc⟩:=hr.at_ h;⟨b,o,hA,dW (ak.rfl_.next E5) hc⟩)) hA4 (d_ l) (by omega) (by omega) ?_;intro A7 c7 w3 ho7 B7 hg7;refine ass rfl (ah (ae (aA (a_ (v:=.slice _ _ _) rfl rfl (⟨⟨A7,c7,by rw [Nat.zero_add],by simpa using ho7⟩,B7⟩)))))
theorem ic (a b:ByteArray) (w:World):Rt prog 41 [.string a,.string b] w fun v w'=>v=.int .i64 (kJ a b)∧w=w':=
 Calls.mono (Try.strings_Compare a b w) fun e w' h=>⟨_,h.1,by unfold kJ;rw [Lib.toList_data,Lib.toList_data],h.2.symm⟩
def okB (b:Nat):Bool:=(decide (b≥97)&&decide (b≤122))||(decide (b≥48)&&decide (b≤57))||decide (b=46)||decide (b=45)
def okN (s:ByteArray):Bool:=decide (1≤s.size)&&decide (s.size≤64)&&(c8 s).all okB
theorem lq {s:ByteArray}:s.toList=(⟨#[]⟩:ByteArray).toList↔s.size=0:=by
 rw [←gQ,Lib.toList_data (s:=⟨#[]⟩)];exact List.length_eq_zero_iff.symm
theorem lp {s:ByteArray}:s.toList=[]↔s.size=0:=by rw [←gQ];exact List.length_eq_zero_iff.symm
theorem jn {b:Nat} (h:128≤b):okB b=false:=by unfold okB;simp;omega
theorem lE (s:ByteArray) (pos:Nat) (h:128≤(s.get! pos).toNat):128≤(Utf8.decode s pos).1:=by
 unfold Utf8.decode;simp only [Nat.add_zero];rw [if_neg (by omega)];split
 ·split
  ·assumption
  ·decide
 ·split
  ·split
   ·rename_i h1;simp at h1;omega
   ·decide
  ·split
   ·split
    ·rename_i h1;simp at h1;omega
    ·decide
   ·decide
theorem jK (s:ByteArray) (pos:Nat) (h:(s.get! pos).toNat<128):Utf8.decode s pos=((s.get! pos).toNat,1):=by
 unfold Utf8.decode;simp only [Nat.add_zero];rw [if_pos (by omega)]
theorem kC (s:ByteArray) (pos:Nat) (h:pos<s.size):(c8 s)[pos]? =some (s.get! pos).toNat:=by
 unfold c8;rw [List.getElem?_map];have h2:pos<s.data.toList.length:=h;rw [List.getElem?_eq_getElem h2];show some _=some _
 congr 2
 show s.data.toList[pos]=s.data[pos]!;rw [getElem!_pos s.data pos h];rfl
theorem gj (s:ByteArray):∀ f pos,s.size≤pos+f→(0≤Lib.idxFuncFrom (fun r=> !okB r) true s f pos↔((c8 s).drop pos).all okB=false)
 |0,pos,h=>by
  have:(c8 s).drop pos=[]:=List.drop_eq_nil_of_le (by rw [cT];omega);rw [this];unfold Lib.idxFuncFrom;simp
 |f+1,pos,h=>by
  unfold Lib.idxFuncFrom;by_cases hp:pos<s.size
  ·have hg:=kC s pos hp
   have hd:(c8 s).drop pos=(s.get! pos).toNat::(c8 s).drop (pos+1):=by
    have h3:pos<(c8 s).length:=by rw [cT];exact hp
    rw [List.drop_eq_getElem_cons h3]
    congr 1
    rw [List.getElem?_eq_getElem h3] at hg;exact Option.some.inj hg
   rw [if_pos hp,hd,List.all_cons];rcases Nat.lt_or_ge (s.get! pos).toNat 128 with k | k
   ·rw [jK s pos k];by_cases ko:okB (s.get! pos).toNat=true
    ·simp only [ko,Bool.not_true,Bool.false_eq_true,if_false,Bool.true_and];exact gj s f (pos+1) (by omega)
    ·rw [Bool.not_eq_true] at ko;simp only [ko,Bool.not_false,if_true,Bool.false_and];exact ⟨fun _=>trivial,fun _=>Int.natCast_nonneg _⟩
   ·rw [jn (lE s pos k),jn k];simp
  ·have:(c8 s).drop pos=[]:=List.drop_eq_nil_of_le (by rw [cT];omega);rw [if_neg hp,this];simp
theorem kA (s:ByteArray):decide (0≤Lib.idxFunc (fun r=> !okB r) true s)= !(c8 s).all okB:=by
 unfold Lib.idxFunc;have:=gj s s.size 0 (by omega);rw [List.drop_zero] at this;rw [Bool.eq_iff_iff,decide_eq_true_iff,this];simp
theorem jx (r:Nat) (w:World) :
 Rt prog 38 [.int .i32 (r:Nat)] w (fun v w'=>v=.bool (!okB r)∧w=w'):=by
 refine enter (n:=26) Try.func38 rfl rfl rfl (ai (ag (asb rfl (ah (ae (ai (ag (mvi rfl (aa (cn (iF rfl rfl) (show Value.bool (decide ((r:Int)≥97))=Value.bool (decide (r≥97)) from congrArg Value.bool (decide_eq_decide.2 (by omega)))) (mvb rfl (mj (t:=5) rfl (fun Q1=>?_) (fun Q1=>?_))))))))))))
 ·refine ab rfl (mvi rfl (ab rfl (aa (cn (iE rfl rfl) (show Value.bool (decide ((r:Int)≤122))=Value.bool (decide (r≤122)) from congrArg Value.bool (decide_eq_decide.2 (by omega)))) (aa (ax (v:=.bool _) rfl rfl) (mvb rfl (mj (t:=9) rfl (fun Q2=>?_) (fun Q2=>?_)))))))
  ·refine ao rfl rfl (ao rfl rfl (ao rfl rfl (ff rfl (ff rfl (ao rfl rfl (aa (ax (v:=.bool _) rfl rfl) (mvb rfl (ao rfl rfl ?_))))))));refine ao rfl rfl (aa (ax (v:=.bool _) rfl rfl) (mvb rfl (ao rfl rfl (ao rfl rfl (aa (ax (v:=.bool _) rfl rfl) (aa (fx rfl) (asb rfl (ah (ae (aA ?_))))))))));refine a_ (v:=.bool _) rfl rfl (⟨?_,rfl⟩);unfold okB
   simp_all
  refine ab rfl (mvi rfl (ab rfl (aa (cn (iF rfl rfl) (show Value.bool (decide ((r:Int)≥48))=Value.bool (decide (r≥48)) from congrArg Value.bool (decide_eq_decide.2 (by omega)))) (ab rfl (mvb rfl (mj (t:=12) rfl (fun Q3=>?_) (fun Q3=>?_)))))))
  ·refine ab rfl (mvi rfl (ab rfl (aa (cn (iE rfl rfl) (show Value.bool (decide ((r:Int)≤57))=Value.bool (decide (r≤57)) from congrArg Value.bool (decide_eq_decide.2 (by omega)))) (ab rfl (aa (ax (v:=.bool _) rfl rfl) (aa (aq (v:=.bool _) rfl rfl) (mvb rfl (mj (t:=17) rfl (fun Q4=>?_) (fun Q4=>?_)))))))))
   ·refine ao rfl rfl (ao rfl rfl (aa (ax (v:=.bool _) rfl rfl) (mvb rfl (ao rfl rfl (ao rfl rfl (aa (ax (v:=.bool _) rfl rfl) (aa (fx rfl) (asb rfl ?_))))))));refine ah (ae (aA (a_ (v:=.bool _) rfl rfl (⟨?_,rfl⟩))));unfold okB
    simp_all
   refine ab rfl (mvi rfl (ab rfl (aa (cn (bO rfl rfl) (show Value.bool ((r:Int)==46)=Value.bool (decide (r=46)) from congrArg Value.bool (by rw [Bool.eq_iff_iff];simp;omega))) ?_)));refine aa (aq (v:=.bool _) rfl rfl) (mvb rfl (mj (t:=21) rfl (fun Q5=>?_) (fun Q5=>?_)))
   ·refine ao rfl rfl (ao rfl rfl (aa (ax (v:=.bool _) rfl rfl) (aa (fx rfl) (asb rfl (ah (ae (aA (a_ (v:=.bool _) rfl rfl (⟨?_,rfl⟩)))))))));unfold okB
    simp_all
   refine ab rfl (mvi rfl (ab rfl (aa (cn (bO rfl rfl) (show Value.bool ((r:Int)==45)=Value.bool (decide (r=45)) from congrArg Value.bool (by rw [Bool.eq_iff_iff];simp;omega))) ?_)));refine aa (aq (v:=.bool _) rfl rfl) (aa (fx rfl) (asb rfl (ah (ae (aA (a_ (v:=.bool _) rfl rfl (⟨?_,rfl⟩)))))));unfold okB
   simp_all
  refine ao rfl rfl (ao rfl rfl (ab rfl (aa (aq (v:=.bool _) rfl rfl) (aa (aq (v:=.bool _) rfl rfl) (mvb rfl (ab rfl (mvi rfl (ab rfl ?_))))))));refine aa (cn (bO rfl rfl) (show Value.bool ((r:Int)==46)=Value.bool (decide (r=46)) from congrArg Value.bool (by rw [Bool.eq_iff_iff];simp;omega))) ?_;refine aa (aq (v:=.bool _) rfl rfl) (mvb rfl (mj (t:=21) rfl (fun Q6=>?_) (fun Q6=>?_)))
  ·refine ao rfl rfl (ao rfl rfl (aa (ax (v:=.bool _) rfl rfl) (aa (fx rfl) (asb rfl (ah (ae (aA (a_ (v:=.bool _) rfl rfl (⟨?_,rfl⟩)))))))));unfold okB
   simp_all
  refine ab rfl (mvi rfl (ab rfl (aa (cn (bO rfl rfl) (show Value.bool ((r:Int)==45)=Value.bool (decide (r=45)) from congrArg Value.bool (by rw [Bool.eq_iff_iff];simp;omega))) ?_)));refine aa (aq (v:=.bool _) rfl rfl) (aa (fx rfl) (asb rfl (ah (ae (aA (a_ (v:=.bool _) rfl rfl (⟨?_,rfl⟩)))))));unfold okB
  simp_all
 refine ao rfl rfl (ao rfl rfl (aa (aq (v:=.bool _) rfl rfl) (mvb rfl (ab rfl (mvi rfl (ab rfl (aa (cn (iF rfl rfl) (show Value.bool (decide ((r:Int)≥48))=Value.bool (decide (r≥48)) from congrArg Value.bool (decide_eq_decide.2 (by omega)))) (ab rfl ?_))))))));refine mvb rfl (mj (t:=12) rfl (fun Q7=>?_) (fun Q7=>?_))
 ·refine ab rfl (mvi rfl (ab rfl (aa (cn (iE rfl rfl) (show Value.bool (decide ((r:Int)≤57))=Value.bool (decide (r≤57)) from congrArg Value.bool (decide_eq_decide.2 (by omega)))) (ab rfl (aa (ax (v:=.bool _) rfl rfl) (aa (aq (v:=.bool _) rfl rfl) (mvb rfl (mj (t:=17) rfl (fun Q8=>?_) (fun Q8=>?_)))))))))
  ·refine ao rfl rfl (ao rfl rfl (aa (ax (v:=.bool _) rfl rfl) (mvb rfl (ao rfl rfl (ao rfl rfl (aa (ax (v:=.bool _) rfl rfl) (aa (fx rfl) (asb rfl ?_))))))));refine ah (ae (aA (a_ (v:=.bool _) rfl rfl (⟨?_,rfl⟩))));unfold okB
   simp_all
  refine ab rfl (mvi rfl (ab rfl (aa (cn (bO rfl rfl) (show Value.bool ((r:Int)==46)=Value.bool (decide (r=46)) from congrArg Value.bool (by rw [Bool.eq_iff_iff];simp;omega))) ?_)));refine aa (aq (v:=.bool _) rfl rfl) (mvb rfl (mj (t:=21) rfl (fun Q9=>?_) (fun Q9=>?_)))
  ·refine ao rfl rfl (ao rfl rfl (aa (ax (v:=.bool _) rfl rfl) (aa (fx rfl) (asb rfl (ah (ae (aA (a_ (v:=.bool _) rfl rfl (⟨?_,rfl⟩)))))))));unfold okB
   simp_all
  refine ab rfl (mvi rfl (ab rfl (aa (cn (bO rfl rfl) (show Value.bool ((r:Int)==45)=Value.bool (decide (r=45)) from congrArg Value.bool (by rw [Bool.eq_iff_iff];simp;omega))) ?_)));refine aa (aq (v:=.bool _) rfl rfl) (aa (fx rfl) (asb rfl (ah (ae (aA (a_ (v:=.bool _) rfl rfl (⟨?_,rfl⟩)))))));unfold okB
  simp_all
 refine ao rfl rfl (ao rfl rfl (ab rfl (aa (aq (v:=.bool _) rfl rfl) (aa (aq (v:=.bool _) rfl rfl) (mvb rfl (ab rfl (mvi rfl (ab rfl ?_))))))));refine aa (cn (bO rfl rfl) (show Value.bool ((r:Int)==46)=Value.bool (decide (r=46)) from congrArg Value.bool (by rw [Bool.eq_iff_iff];simp;omega))) ?_;refine aa (aq (v:=.bool _) rfl rfl) (mvb rfl (mj (t:=21) rfl (fun Q10=>?_) (fun Q10=>?_)))
 ·refine ao rfl rfl (ao rfl rfl (aa (ax (v:=.bool _) rfl rfl) (aa (fx rfl) (asb rfl (ah (ae (aA (a_ (v:=.bool _) rfl rfl (⟨?_,rfl⟩)))))))));unfold okB
  simp_all
 refine ab rfl (mvi rfl (ab rfl (aa (cn (bO rfl rfl) (show Value.bool ((r:Int)==45)=Value.bool (decide (r=45)) from congrArg Value.bool (by rw [Bool.eq_iff_iff];simp;omega))) ?_)));refine aa (aq (v:=.bool _) rfl rfl) (aa (fx rfl) (asb rfl (ah (ae (aA (a_ (v:=.bool _) rfl rfl (⟨?_,rfl⟩)))))));unfold okB
 simp_all
theorem ib (s:ByteArray) (w:World):Rt prog 37 [.string s,.func (.func 38) #[] #[]] w fun v w'=>v=.bool (!(c8 s).all okB)∧ak w w':=by
 refine Calls.mono (Try.strings_ContainsFunc_runes 38 #[] (fun args w=>ek (w:=w) (by kernel_rfl) args) (fun r=> !okB r) s w fun W x _ _=>?_) fun e w' h=>?_
 ·exact Calls.mono (jx x W) fun e w' h=>by
   obtain ⟨v,he,hv,hw⟩:=h;subst hw;exact ⟨by rw [he,hv],0,rfl⟩
 ·rw [kA] at h;exact ⟨_,h.1,rfl,h.2⟩
theorem cL (A:Option Addr) (c n:Nat) (nms:List ByteArray) (w:World) (hr:di 1 (fun s=>[Value.string s]) w A nms) (hn:n=nms.length) (hl:n≤100000000) (hs:∀ s∈nms,s.size≤140737488351232) :
 Rt prog 26 [.slice A n c] w (fun v w'=>v=.bool (nms.all okN)∧ak w w'):=by
 refine enter (n:=25) Try.func26 rfl rfl rfl (ai (ag (asb rfl (ah (ae (ai (ai (ag (mvs rfl (aa (aX jU rfl) (mvi rfl (ah (ae (a7 (cJ (G:=Nat) [2,4,5,9,10,11,12,13,14,15,16,17,18,19,20,21,22,23,24] (fun i=>[(8,.int .i64 (i:Nat))]) (fun i w'=>i≤n∧(nms.take i).all okN=true∧ak w w') (fun i=>n-i) (0) ⟨rfl,trivial⟩ ?_ ?_)))))))))))))))
 ·exact ⟨Nat.zero_le _,rfl,ak.rfl_⟩
 rintro i ρ1 w1 ⟨hi,hok,hB⟩;refine ai (ag (aa (bG rfl rfl) (ah (ae (ai (mC rfl (fun Q2=>?_) (fun Q2=>?_)))))))
 ·obtain ⟨ba,oa,rfl,hca⟩:=hr (by omega);have hil:i<nms.length:=by omega
  have hce:=hca i hil;have hsz:=hs _ (List.getElem_mem hil);refine aD (ae (ai (a7 (ai (ag (aa (fc gy rfl rfl (by omega)) (aa (ar bl rfl (by exact (by have h9:=hce 0 _ rfl;simpa using cg hB h9))) ?_)))))));refine asg rfl (ah (ae (ai (ag (mvg rfl (aG jV (ib nms[i] _) ?_))))));rintro v13 w3 ⟨rfl,E13⟩;refine asb rfl (ah (ae (ai (ag (mvb rfl (mvb rfl (mh (t:=15) rfl (fun Q4=>?_) (fun Q4=>?_))))))))
  ·refine ao rfl rfl (ao rfl rfl (aa (ax (v:=.bool _) rfl rfl) (mvb rfl (ao rfl rfl (ao rfl rfl (ao rfl rfl (aa (ax (v:=.bool _) rfl rfl) (ah (ae ?_)))))))));refine cP rfl (ai (ag (asb rfl (ah (ae (aA (aU (az (az (aU (az (a_ (v:=.bool _) rfl rfl ?_))))))))))));have hon:okN nms[i]=false:=by unfold okN;simp_all <;> omega
   refine ⟨congrArg Value.bool ?_,(hB.next E13)⟩;symm;rw [List.all_eq_false];exact ⟨_,List.getElem_mem hil,by rw [hon];decide⟩
  refine ab rfl (mvg rfl (ab rfl (aa (k_ rfl rfl) (aa (aq (v:=.bool _) rfl rfl) (mvb rfl (mi (t:=19) rfl (fun Q5=>?_) (fun Q5=>?_)))))))
  ·refine ao rfl rfl (ao rfl rfl (ao rfl rfl (aa (ax (v:=.bool _) rfl rfl) (ah (ae (cP rfl (ai (ag (asb rfl (ah (ae (aA (aU (az (az (aU (az ?_)))))))))))))))));refine a_ (v:=.bool _) rfl rfl ?_;have hon:okN nms[i]=false:=by unfold okN;simp_all [lp] <;> omega
   refine ⟨congrArg Value.bool ?_,(hB.next E13)⟩;symm;rw [List.all_eq_false];exact ⟨_,List.getElem_mem hil,by rw [hon];decide⟩
  refine ab rfl (mvg rfl (ab rfl (aa (fi (by kernel_rfl) rfl) (ab rfl (aa (bh rfl rfl) (aa (aq (v:=.bool _) rfl rfl) (ah (ae (mC rfl (fun Q6=>?_) (fun Q6=>?_))))))))))
  ·refine ai (ag (asb rfl (ah (ae (aA (aU (az (az (aU (az (a_ (v:=.bool _) rfl rfl ?_)))))))))));have hon:okN nms[i]=false:=by unfold okN;simp_all [lp] <;> omega
   refine ⟨congrArg Value.bool ?_,(hB.next E13)⟩;symm;rw [List.all_eq_false];exact ⟨_,List.getElem_mem hil,by rw [hon];decide⟩
  refine aD (bk (ae (ag (aa (aW (b:=1) rfl rfl (by omega)) (mvi rfl (ah ?_))))));refine bo (i+1) ⟨(by first | rfl | (refine bw ?_;omega)),trivial⟩ (by (iterate 41 refine aR rfl ?_);exact aZ) ⟨?_,?_⟩
  ·have hon:okN nms[i]=true:=by unfold okN;simp_all [lp];exact ⟨Nat.pos_of_ne_zero fun h9=>by simp_all,by omega⟩
   exact ⟨by omega,by rw [List.take_succ_eq_append_getElem hil,List.all_append,hok,List.all_cons,List.all_nil,hon];rfl,(hB.next E13)⟩
  ·show n-(i+1)<n-i;omega
 refine bY (aS (aS (fN (ae (ai (ag (asb rfl (ah (ae (aA (a_ (v:=.bool _) rfl rfl ?_)))))))))));obtain rfl:i=n:=by omega
 rw [hn,List.take_length] at hok;exact ⟨by rw [hok],hB⟩
end Go.Proofs.Ytmbcbinocebodaa
namespace Go.Proofs.Ytmbcbinocebodaa
open Go.Proofs.Try (prog)
open Go.RowKit
open Go.ChangeShapes Go.WideShapes Go.ChangeAt
theorem ir:bT prog 63 0=some 0:=by kernel_rfl
theorem jP:aO prog 41=true:=by kernel_rfl
theorem eZ:aO prog 40=true:=by kernel_rfl
theorem c6:(bU prog 56).isSome=true:=by kernel_rfl
theorem kR:(prog.underlying 3).isSome=true:=by kernel_rfl
theorem jR:prog.underlying 71=some (.int .u64):=by kernel_rfl
theorem jO:(prog.underlying 71).isSome=true:=by kernel_rfl
theorem kS:prog.underlying 3=some (.int .i64):=by kernel_rfl
theorem aM:bU prog 56=some (63,3):=by kernel_rfl
theorem gv:dJ prog 63=some true:=by kernel_rfl
theorem gu:b8 prog 63=some 3:=by kernel_rfl
theorem aV:bT prog 58 0=some 0:=by kernel_rfl
theorem bM:dJ prog 56=some false:=by kernel_rfl
theorem jQ:aO prog 39=true:=by kernel_rfl
theorem cw:aO prog 26=true:=by kernel_rfl
theorem e_:bT prog 58 1=some 1:=by kernel_rfl
theorem eD:dJ prog 3=some false:=by kernel_rfl
theorem iq:b8 prog 3=some 1:=by kernel_rfl
theorem cW:bT prog 58 2=some 2:=by kernel_rfl
theorem cD:bT prog 58 3=some 3:=by kernel_rfl
theorem fL:dJ prog 4=some false:=by kernel_rfl
theorem im:b8 prog 4=some 1:=by kernel_rfl
theorem gF {fs:List Fl} {i:Nat} (h:i<fs.length):fs.getD i Fz=fs[i]:=by rw [List.getD_eq_getElem?_getD,List.getElem?_eq_getElem h];rfl
def aH (fs:List Fl):List Fe:=fs.map Fl.abs
theorem aF (fs:List Fl):(aH fs).length=fs.length:=List.length_map _
theorem aY {fs:List Fl} {i:Nat} (h:i<(aH fs).length):(aH fs)[i]=(fs[i]'(by rw [←aF];exact h)).abs:=List.getElem_map _
theorem KS.getD {fs:List Fl} (h:KS (aH fs)) {i j:Nat} (hij:i<j) (hj:j<fs.length):sLt (fs.getD i Fz).nm (fs.getD j Fz).nm:=by
 rw [gF (Nat.lt_trans hij hj),gF hj];have:=h.cmp hij (by rw [aF];exact hj)
 rwa [aY,aY] at this
def Fnd (fs:List Fl) (id:ByteArray) (i:Nat) (fd:Bool):Prop:=KAt (aH fs) id i∧(fd=true↔∃ h:i<fs.length,fs[i].nm=id)
theorem kD {fs:List Fl} {id:ByteArray} {i:Nat} {fd:Bool} (h1:i≤fs.length) (h2:∀ x,x<i→sLt (fs.getD x Fz).nm id) (h3:∀ x,i≤x→x<fs.length→¬ sLt (fs.getD x Fz).nm id) (h4:fd=true↔i<fs.length∧(fs.getD i Fz).nm=id):Fnd fs id i fd:=by
 refine ⟨⟨by rw [aF];exact h1,fun x hx hxi=>?_,fun x hx hxi=>?_⟩,h4.trans ⟨fun ⟨a,b⟩=>⟨a,by rw [gF a] at b;exact b⟩,fun ⟨a,b⟩=>⟨a,by rw [gF a];exact b⟩⟩⟩
 ·rw [aY];have:=h2 x hxi;rwa [gF (by rw [←aF];exact hx)] at this
 ·rw [aY];have:=h3 x hxi (by rw [←aF];exact hx);rwa [gF (by rw [←aF];exact hx)] at this
def bE (ok:Bool) (fu:Nat) (off:Bool):Int:=if ok then (if off||fu==1 then 7 else 0) else 1
def fuB (ok:Bool) (fu:Nat):Nat:=if ok then fu-1 else fu
def dX (ok:Bool) (fu:Nat) (off:Bool):Bool:=if ok then off||fu==1 else off
theorem gU {w:World} {base n c:Nat} {A:Option Addr} {fs:List Fl} (h:w.ownsRow base 63 3 (.slice A n c) n (fs.flatMap flV)):n=fs.length∧di 3 flV w A fs:=⟨(di.own db (by decide) h).1.symm,(di.own db (by decide) h).2⟩
theorem nv (f:Fl) (id:ByteArray) (w:World) :
 Rt prog 40 [.agg (flV f).toArray,.string id] w (fun v w'=>v=.int .i64 (kJ f.nm id)∧ak w w'):=by
 refine enter (n:=9) Try.func40 rfl rfl rfl (ai (ag (gB (v:=.agg _) rfl ?_)));intro b2 w1 E2 hb2 hk2;refine asi rfl (ah (ae (ai (ag (aa (aj ir rfl) (aa (ar bl rfl (by exact hk2.rd 0 rfl)) ?_))))));refine mvg rfl (aG jP (ic f.nm id _) ?_);rintro v8 w2 ⟨rfl,rfl⟩;refine asi rfl (ah (ae (aA (a_ (v:=.int _ _) rfl rfl (⟨rfl,(ak.rfl_.next E2)⟩)))))
theorem hZ (A:Option Addr) (c n:Nat) (fs:List Fl) (w:World) (hr:di 3 flV w A fs) (hn:n=fs.length) (hl:n≤100000000) (id:ByteArray) (hO:KS (aH fs)) :
 Rt prog 39 [.slice A n c,.string id,.func (.func 40) #[] #[]] w (fun v w'=>(∃ (i:Nat) (fd:Bool),v=.tuple #[.int .i64 (i:Nat),.bool fd]∧Fnd fs id i fd)∧ak w w'):=by
 refine enter (n:=49) Try.func39 rfl rfl rfl (ai (ag (asi rfl (asb rfl (ah (ae (ai (ag (mvs rfl (aa (aX c6 rfl) (asi rfl (ah (ae (ai (ag ?_)))))))))))))));refine mvi rfl (asi rfl (asi rfl (ah (ae (ai (a7 (cJ (G:=Nat×Nat) [11,15,16,17,18,19,20,21,22,23,24,25,26,27,28,29,30,31,32,33,34] (fun (i,j)=>[(9,.int .i64 (i:Nat)),(10,.int .i64 (j:Nat))]) (fun (i,j) w'=>i≤j∧j≤n∧(∀ x,x<i→sLt (fs.getD x Fz).nm id)∧(∀ x,j≤x→x<n→¬ sLt (fs.getD x Fz).nm id)∧ak w w') (fun (i,j)=>j-i) ((0,n)) ⟨rfl,rfl,trivial⟩ ?_ ?_)))))))
 ·exact ⟨Nat.zero_le _,Nat.le_refl _,fun x h=>absurd h (by omega),fun x h1 h2=>absurd h1 (by omega),ak.rfl_⟩
 rintro ⟨i,j⟩ ρ1 w1 ⟨hij,hjn,hlo,hhi,hB⟩;refine ai (ai (ag (mvi rfl (mvi rfl (aa (bG rfl rfl) (ah (ae (mC rfl (fun Q2=>?_) (fun Q2=>?_)))))))))
 ·obtain ⟨bd,od,rfl,hcd⟩:=hr (by omega);refine aD (ae (a7 (ai (ag (mvi rfl (mvi rfl (aa (aW rfl rfl (by omega)) ?_)))))));obtain ⟨h,hh⟩:∃ h,h=(i+j)/2 ^ 1:=⟨_,rfl⟩;refine aa (jC kR jR rfl (by omega)) (aa (k8 (b:=1) rfl rfl (by decide)) (aa (kd jO kS rfl (by omega)) (j5 (t:=23) (v:=.int _ _) (v':=.int .i64 (h:Nat)) rfl (by rw [hh]) ?_)));refine asi rfl (ah (ae (ai (ag (aa (av (v:=.func _ _ _) rfl) (mvs rfl (mvi rfl (aa (aJ aM rfl rfl (by omega)) ?_))))))));refine aa (el (cs:=[_,_,_]) gv gu rfl (by have h2:=hcd h (by omega);rw [←gF (show h<fs.length by omega)] at h2;exact dW hB h2)) ?_;refine mvg rfl (gS (caps:=[]) rfl eZ (nv (fs.getD h Fz) id _) ?_);rintro v3 w3 ⟨rfl,E30⟩;refine aa (bG rfl rfl) (ah (ae (mC rfl (fun Q4=>?_) (fun Q4=>?_))))
  ·have hlt:sLt (fs.getD h Fz).nm id:=js.1 (by omega);refine ag (mvi rfl (aa (aW (b:=1) rfl rfl (by omega)) (asi rfl (ah (bk ?_)))));refine bo ((h+1,j)) ⟨(by first | rfl | (refine bw ?_;omega)),(by first | rfl | (refine bw ?_;omega)),trivial⟩ (by (iterate 45 refine aR rfl ?_);exact aZ) ⟨?_,?_⟩
   ·exact ⟨by omega,hjn,fun x hx=>by
     rcases Nat.eq_or_lt_of_le (Nat.le_of_lt_succ hx) with e | e
     ·subst e;exact hlt
     ·exact dB (hO.getD e (by omega)) hlt,hhi,(hB.next E30)⟩
   ·show j-(h+1)<j-i;omega
  have hnl:¬ sLt (fs.getD h Fz).nm id:=fun h9=>by have:=js.2 h9;omega
  refine ag (mvi rfl (asi rfl (ah (bk ?_))));refine bo ((i,h)) ⟨(by first | rfl | (refine bw ?_;omega)),(by first | rfl | (refine bw ?_;omega)),trivial⟩ (by (iterate 44 refine aR rfl ?_);exact aZ) ⟨?_,?_⟩
  ·exact ⟨by omega,by omega,hlo,fun x h1 h2=>by
    rcases Nat.eq_or_lt_of_le h1 with e | e
    ·subst e;exact hnl
    ·exact fun h9=>hnl (dB (hO.getD e (by omega)) h9),(hB.next E30)⟩
  ·show h-i<j-i;omega
 refine bY (aS (aS (fN (ae (ai (ag (mvi rfl (mvi rfl (mvi rfl (aa (bG rfl rfl) (mvb rfl (mj (t:=39) rfl (fun Q5=>?_) (fun Q5=>?_)))))))))))))
 ·obtain ⟨bd,od,rfl,hcd⟩:=hr (by omega);refine ab rfl (aa (av (v:=.func _ _ _) rfl) (ab rfl (mvs rfl (ab rfl (mvi rfl (ab rfl (aa (aJ aM rfl rfl (by omega)) (ab rfl ?_))))))));refine aa (el (cs:=[_,_,_]) gv gu rfl (by have h2:=hcd i (by omega);rw [←gF (show i<fs.length by omega)] at h2;exact dW hB h2)) ?_;refine ab rfl (mvg rfl (ab rfl (gS (caps:=[]) rfl eZ (nv (fs.getD i Fz) id _) ?_)));rintro v6 w6 ⟨rfl,E46⟩;refine ab rfl (aa (bO rfl rfl) (aa (ax (v:=.bool _) rfl rfl) (asi rfl (asb rfl (ah (ae (aA (dU (v:=.int _ _) (v':=.bool _) rfl rfl rfl ?_))))))));obtain rfl:i=j:=by omega
  subst hn;refine ⟨⟨i,_,rfl,kD hjn hlo hhi ?_⟩,(hB.next E46)⟩
  first
   |(rw [beq_iff_eq,fk];exact ⟨fun h9=>⟨by omega,h9⟩,fun h9=>h9.2⟩)
   |(rw [decide_eq_true_iff,fk];exact ⟨fun h9=>⟨by omega,h9⟩,fun h9=>h9.2⟩)
   |exact ⟨fun h9=>(by cases h9),fun h9=>absurd h9.1 (by omega)⟩
 refine ao rfl rfl (ao rfl rfl (ao rfl rfl (ao rfl rfl (ao rfl rfl (ao rfl rfl (ao rfl rfl (ao rfl rfl (aa (aq (v:=.bool _) rfl rfl) ?_))))))));refine asi rfl (asb rfl (ah (ae (aA (dU (v:=.int _ _) (v':=.bool _) rfl rfl rfl ?_)))));obtain rfl:i=j:=by omega
 subst hn;refine ⟨⟨i,_,rfl,kD hjn hlo hhi ?_⟩,hB⟩
 first
  |(rw [beq_iff_eq,fk];exact ⟨fun h9=>⟨by omega,h9⟩,fun h9=>h9.2⟩)
  |(rw [decide_eq_true_iff,fk];exact ⟨fun h9=>⟨by omega,h9⟩,fun h9=>h9.2⟩)
  |exact ⟨fun h9=>(by cases h9),fun h9=>absurd h9.1 (by omega)⟩
theorem gE (d:Nat) (fs:List Fl) (Ap:Option Addr) (cp:Nat) (ca:Int) (fu:Nat) (off:Bool) (w:World) (h:DkH w d fs Ap cp ca fu off) (hs:KS (aH fs)) (hl:fs.length≤16) (_:fu≤9223372036854775807) (id:ByteArray) :
 Rt prog 29 [.pointer (some ⟨d,0,none⟩),.string id] w (fun v w'=>(∃ (i:Nat) (fd:Bool),v=.tuple #[.int .i64 (i:Nat),.bool fd]∧Fnd fs id i fd)∧ak w w'):=by
 refine enter (n:=14) Try.func29 rfl rfl rfl (ai (ag (asi rfl (asb rfl (ah (ae (ai (ag (mvp rfl (aa (aB rfl) (aa (aj aV rfl) (aa (ar bM rfl (by exact (h.blk.from_ ak.rfl_).rd 0 rfl)) ?_))))))))))));refine mvg rfl (aG jQ (hZ Ap cp fs.length fs _ ((gU h.row).2.from_ ak.rfl_) rfl (by omega) id hs) ?_);rintro v11 w1 ⟨⟨i,fd,rfl,hf⟩,E11⟩;refine aa (aI rfl rfl) (aa (aI rfl rfl) (asi rfl (asb rfl (ah (ae (aA (dU (v:=.int _ _) (v':=.bool _) rfl rfl rfl (⟨⟨i,fd,rfl,hf⟩,(ak.rfl_.next E11)⟩))))))))
theorem ij (d:Nat) (fs:List Fl) (Ap:Option Addr) (cp:Nat) (ca:Int) (fu:Nat) (off:Bool) (w:World) (h:DkH w d fs Ap cp ca fu off) (_:KS (aH fs)) (_:fs.length≤16) (hfu0:fu≤9223372036854775807) (A:Option Addr) (c n:Nat) (nms:List ByteArray) (hr:di 1 (fun s=>[Value.string s]) w A nms) (hn:n=nms.length) (hnl:n≤1000) (hsz:∀ s∈nms,s.size≤140737488351232) :
 Rt prog 28 [.pointer (some ⟨d,0,none⟩),.slice A n c] w (fun v w'=>v=.int .i64 (bE (nms.all okN) fu off)∧(∃ ca',DkH w' d fs Ap cp ca' (fuB (nms.all okN) fu) (dX (nms.all okN) fu off))∧Chg (fun k=>k=d) w w'):=by
 refine enter (n:=45) Try.func28 rfl rfl rfl (ai (ag (asi rfl (ah (ae (ai (ai (ag (mvs rfl (aG cw (cL A c n nms _ (hr.from_ ak.rfl_) hn (by omega) hsz) ?_))))))))));rintro v6 w1 ⟨rfl,E6⟩;refine aa (fx rfl) (ah (ae (mA rfl (fun Q2=>?_) (fun Q2=>?_))))
 ·have hok:nms.all okN=false:=by first | assumption | simp_all
  refine ai (ag (asi rfl (ah (ae (aA (az (a_ (v:=.int _ _) rfl rfl ?_)))))));refine ⟨by unfold bE;rw [hok];rfl,⟨ca,by unfold fuB dX;rw [hok];exact h.from_ (ak.rfl_.next E6)⟩,((ak.rfl_.next E6)).toChg⟩
 have hok:nms.all okN=true:=by first | assumption | simp_all
 refine aD (ae (ai (ag (mvp rfl (aa (aB rfl) (aa (aj e_ rfl) (aa (ar eD rfl (by exact (h.blk.from_ (ak.rfl_.next E6)).rd 1 rfl)) ?_)))))));refine aa (kf rfl rfl) (aa (aB rfl) (aa (aj e_ rfl) ?_));have hF3:=(ak.rfl_.next E6);have hb3:=h.blk.from_ hF3;refine dR (v:=.int _ _) iq rfl rfl rfl (hb3) (by show 1<4;decide) ?_;intro w3 O3 P3;have hC3:Chg (fun k=>k=d) w _:=hF3.toChg.next (O3.toChg rfl);refine ah (ae (iY (G:=Int×Nat×Bool) [15,16,17,18,19,20,21,22,23,24,25,26,27,28,29,30,31,32,33,34,35,36,37,38,39,40] (fun _=>[]) (fun (ca2,fu2,off2) w'=>fu2=fu-1∧off2=(off||fu==1)∧Blk w' d 58 #[.slice Ap fs.length cp,.int .i64 ca2,.int .i64 (fu2:Nat),.bool off2]∧Chg (fun k=>k=d) w w') ?_ ?_))
 ·refine ai (ag (mvp rfl (aa (aB rfl) (aa (aj cW rfl) (aa (ar eD rfl (by exact P3.rd 2 rfl)) ?_)))));refine aa (bh rfl rfl) (ah (ae (mC rfl (fun Q4=>?_) (fun Q4=>?_))))
  ·refine ai (ag (mvp rfl (aa (aB rfl) (aa (aj cW rfl) (aa (ar eD rfl (by exact P3.rd 2 rfl)) ?_)))));refine aa (fh (b:=1) rfl rfl (by omega)) (aa (aB rfl) (aa (aj cW rfl) (dR (v:=.int _ _) iq rfl rfl rfl (P3) (by show 2<4;decide) ?_)));intro w5 O5 P5;have hC5:Chg (fun k=>k=d) w _:=hC3.next (O5.toChg rfl);refine ah (ae (ag (mvp rfl (mvp rfl (aa (aB rfl) (aa (aj cD rfl) (aa (ar fL rfl (by exact P5.rd 3 rfl)) ?_)))))));refine mvb rfl (aw (t:=32) rfl (fun Q6=>?_) (fun Q6=>?_))
   ·refine ao rfl rfl (ao rfl rfl (ao rfl rfl (ao rfl rfl (ao rfl rfl (aa (ax (v:=.bool _) rfl rfl) (aa (aB rfl) (aa (aj cD rfl) (dR (v:=.bool _) im rfl rfl rfl (P5) (by show 3<4;decide) ?_))))))));intro w7 O6 P6;have hC6:Chg (fun k=>k=d) w _:=hC5.next (O6.toChg rfl);refine ah ?_;refine bo ((IntKind.i64.wrap (ca+1),fu-1,off||fu==1)) trivial (by (iterate 27 refine aR rfl ?_);exact aZ) ?_;refine ⟨rfl,rfl,?_,hC6⟩;have e6:=P6
    first
     |(rw [show (off||fu==1)=true by simp_all];exact e6)
     |(rw [show (off||fu==1)=(((fu-1:Nat):Int)==0) by simp_all;rw [Bool.eq_iff_iff];simp;omega];exact e6)
   refine ab rfl (mvp rfl (ab rfl (aa (aB rfl) (ab rfl (aa (aj cW rfl) (ab rfl (aa (ar eD rfl (by exact P5.rd 2 rfl)) ?_)))))));refine ab rfl (aa (bO rfl rfl) (aa (aq (v:=.bool _) rfl rfl) (aa (aB rfl) (aa (aj cD rfl) (dR (v:=.bool _) im rfl rfl rfl (P5) (by show 3<4;decide) ?_)))));intro w8 O6 P6;have hC6:Chg (fun k=>k=d) w _:=hC5.next (O6.toChg rfl);refine ah ?_;refine bo ((IntKind.i64.wrap (ca+1),fu-1,off||fu==1)) trivial (by (iterate 27 refine aR rfl ?_);exact aZ) ?_;refine ⟨rfl,rfl,?_,hC6⟩;have e6:=P6
   first
    |(rw [show (off||fu==1)=true by simp_all];exact e6)
    |(rw [show (off||fu==1)=(((fu-1:Nat):Int)==0) by simp_all;rw [Bool.eq_iff_iff];simp;omega];exact e6)
  refine aD ?_;refine bo ((IntKind.i64.wrap (ca+1),fu-1,off||fu==1)) trivial (by (iterate 5 refine aR rfl ?_);exact aZ) ?_;obtain rfl:fu=0:=by omega
  refine ⟨rfl,rfl,?_,hC3⟩;rw [show (off||(0:Nat)==1)=off by simp];exact P3
 rintro ⟨ca2,fu2,off2⟩ ρ9 w9 ⟨hfu,hoff,hb7,hC7⟩;refine ai (ai (ag (mvp rfl (aa (aB rfl) (aa (aj cD rfl) (aa (ar fL rfl (by exact hb7.rd 3 rfl)) ?_))))));refine ah (ae (aE rfl (fun Q10=>?_) (fun Q10=>?_)))
 ·refine ai (ag (asi rfl (ah (ae (aA (az (a_ (v:=.int _ _) rfl rfl ?_)))))));refine ⟨by unfold bE;rw [hok,←hoff];simp_all,⟨ca2,by unfold fuB dX;rw [hok];exact h.setD hC7 (by rw [←hfu,←hoff];exact hb7)⟩,hC7⟩
 refine aD (ae (ai (ag (asi rfl (ah (ae (aA (a_ (v:=.int _ _) rfl rfl ?_))))))));refine ⟨by unfold bE;rw [hok,←hoff];simp_all,⟨ca2,by unfold fuB dX;rw [hok];exact h.setD hC7 (by rw [←hfu,←hoff];exact hb7)⟩,hC7⟩
theorem fM:aO prog 28=true:=by kernel_rfl
theorem ef:aO prog 29=true:=by kernel_rfl
theorem bW:cF prog 45=some (9,1,16,(.string ⟨#[]⟩)):=by kernel_rfl
theorem eS:bT prog 63 1=some 1:=by kernel_rfl
theorem cm:bT prog 61 0=some 0:=by kernel_rfl
theorem a8:dJ prog 32=some false:=by kernel_rfl
theorem eh:aO prog 27=true:=by kernel_rfl
theorem eU {w:World} {g:Nat} {s:ByteArray} (h:Blk w g 9 #[.string s]):di 1 (fun s=>[Value.string s]) w (some ⟨g,0,none⟩) [s]:=fun _=>⟨g,0,rfl,fun i hi=>by
 obtain rfl:i=0:=by have:i<1:=hi;omega
 exact h.range 0 _ (fun j v hj=>by
  match j,hj with
  |0,hj=>exact hj
  |j+1,hj=>simp at hj)⟩
theorem eG {w:World} {base e s n c:Nat} {A:Option Addr} {xs:List Value} (h:w.ownsRow base e s (.slice A n c) n xs) (hn:0<n):∃ g,A=some ⟨g,0,none⟩:=by
 obtain ⟨g,cur,e,_⟩:=jm h hn;exact ⟨g,e⟩
theorem Fnd.has {fs:List Fl} {id:ByteArray} {i:Nat} {fd:Bool} (h:Fnd fs id i fd) (hs:KS (aH fs)):dZ (aH fs) id=fd:=by
 rw [Bool.eq_iff_iff,h.1.has hs,h.2];exact ⟨fun ⟨a,b⟩=>⟨by rw [←aF];exact a,by rw [aY] at b;exact b⟩,fun ⟨a,b⟩=>⟨by rw [aF];exact a,by rw [aY];exact b⟩⟩
def dh (D:List Fe) (off:Bool) (nm:ByteArray):Int:=if okN nm then (if off then 7 else if dZ D nm then 0 else 3) else 1
def cV (D:List Fe) (off:Bool) (nm:ByteArray):List Nat:=if dh D off nm=0 then cX D nm else []
def DOk (D:List Fe):Prop:=KS D∧D.length≤16∧∀ e∈D,e.2.1.length≤1048576∧e.2.2.length≤1048576
def dk (w:World) (U:Nat→Prop) (d:Nat) (D:List Fe) (fu:Nat) (off:Bool):Prop:=∃ fs Ap cp ca,DkH w d fs Ap cp ca fu off∧aH fs=D∧DOk D∧fu≤9223372036854775807∧∀ k,eE d Ap fs k→U k
section
variable {U V:Nat→Prop} {w w':World} {d:Nat} {D:List Fe} {fu:Nat} {off:Bool}
theorem dk.chg (h:dk w U d D fu off) (c:Chg V w w') (hV:∀ k,U k→¬ V k):dk w' U d D fu off:=by
 obtain ⟨fs,Ap,cp,ca,h1,h2,h3,h4,h5⟩:=h;exact ⟨fs,Ap,cp,ca,h1.chg c fun k hk=>hV k (h5 k hk),h2,h3,h4,h5⟩
theorem dk.from_ (h:dk w U d D fu off) (hF:ak w w'):dk w' U d D fu off:=h.chg (V:=fun _=>False) hF.toChg fun _ _ h=>h
theorem dk.wide (h:dk w U d D fu off) (hU:∀ k,U k→k<w.heap.size→V k):dk w V d D fu off:=by
 obtain ⟨fs,Ap,cp,ca,h1,h2,h3,h4,h5⟩:=h;exact ⟨fs,Ap,cp,ca,h1,h2,h3,h4,fun k hk=>hU k (h5 k hk) (h1.lt hk)⟩
end
theorem ll (d:Nat) (fs:List Fl) (Ap:Option Addr) (cp:Nat) (ca:Int) (fu:Nat) (off:Bool) (w:World) (h:DkH w d fs Ap cp ca fu off) (hs:KS (aH fs)) (hl:fs.length≤16) (hfu0:fu≤9223372036854775807) (A:Option Addr) (c n:Nat) (nms:List ByteArray) (hr:di 1 (fun s=>[Value.string s]) w A nms) (hn:n=nms.length) (hnl:n≤1000) (hsz:∀ s∈nms,s.size≤140737488351232) (h0:0<nms.length) (hA:∀ q,A.map (·.block)=some q→q≠d) :
 Rt prog 31 [.pointer (some ⟨d,0,none⟩),.slice A n c] w (fun v w'=>((bE (nms.all okN) fu off≠0∧v=.tuple #[.pointer none,.int .i64 (bE (nms.all okN) fu off)])∨(bE (nms.all okN) fu off=0∧∃ i fd,Fnd fs (nms.getD 0 ⟨#[]⟩) i fd∧((fd=false∧v=.tuple #[.pointer none,.int .i64 3])∨(fd=true∧∃ g,Ap=some ⟨g,0,none⟩∧v=.tuple #[.pointer (some ⟨g,i*3,none⟩),.int .i64 0]))))∧(∃ ca',DkH w' d fs Ap cp ca' (fuB (nms.all okN) fu) (dX (nms.all okN) fu off))∧Chg (fun k=>k=d) w w'):=by
 obtain ⟨ba,oa,rfl,hca⟩:=hr h0;have hc0:=hca 0 h0;have hlt:ba<w.heap.size:=World.block_lt_of_cell? _ _ (hc0 0 _ rfl);have hne:ba≠d:=hA ba rfl;have hg0:nms.getD 0 ⟨#[]⟩=nms[0]:=by rw [List.getD_eq_getElem?_getD,List.getElem?_eq_getElem h0];rfl
 obtain ⟨e0,he0⟩:∃ e0,e0=bE (nms.all okN) fu off:=⟨_,rfl⟩;refine enter (n:=31) Try.func31 rfl rfl rfl (ai (ag (asp rfl (asi rfl (ah (ae (ai (ai (ag (mvp rfl (mvs rfl (aG fM (ij d fs Ap cp ca fu off _ (h.from_ ak.rfl_) hs hl hfu0 (some ⟨ba,oa,none⟩) c n nms (hr.from_ ak.rfl_) hn hnl hsz) ?_))))))))))));rintro v11 w1 ⟨rfl,⟨ca2,h2⟩,hC11⟩;have hc2:=gb hc0 hC11 (by first | exact hlt | exact Nat.lt_of_lt_of_le hlt (ak.size (by assumption))) hne;rw [←he0];refine asi rfl (ah (ae (ai (ag (mvi rfl (aa (bD rfl rfl) (ah (ae (mz rfl (fun Q2=>?_) (fun Q2=>?_))))))))))
 ·refine ai (ag (mvi rfl (asp rfl (asi rfl (ah (ae (aA (az (dU (v:=.pointer _) (v':=.int _ _) rfl rfl rfl (⟨.inl ⟨by assumption,rfl⟩,⟨ca2,h2.from_ ak.rfl_⟩,hC11.next (ak.rfl_).toChg⟩))))))))))
 refine aD (ae (ai (ag (mvp rfl (mvs rfl (aa (fc (i:=0) gy rfl rfl (by omega)) (aa (ar bl rfl (by have h9:=hc2 0 _ rfl;simpa using cg ak.rfl_ h9)) ?_)))))));refine aG ef (gE d fs Ap cp ca2 _ _ _ (h2.from_ ak.rfl_) hs hl (by unfold fuB;split <;> omega) nms[0]) ?_;rintro v20 w3 ⟨⟨i,fd,rfl,hf⟩,E20⟩;refine mvt rfl (aa (aI rfl rfl) (aa (aI rfl rfl) (asi rfl (asb rfl (ah (ae (ai (ai (ag (mvb rfl (aa (fx rfl) (ah (ae ?_)))))))))))));refine mA rfl (fun Q4=>?_) (fun Q4=>?_)
 ·have hfd:fd=false:=by first | assumption | simp_all
  refine ai (ag (asp rfl (asi rfl (ah (ae (aA (az (dU (v:=.pointer _) (v':=.int _ _) rfl rfl rfl ?_))))))));rw [hg0];exact ⟨.inr ⟨by omega,i,fd,hf,.inl ⟨hfd,rfl⟩⟩,⟨ca2,h2.from_ (ak.rfl_.next E20)⟩,hC11.next ((ak.rfl_.next E20)).toChg⟩
 have hfd:fd=true:=by first | assumption | simp_all
 obtain ⟨hi,hi2⟩:=hf.2.1 hfd;obtain ⟨g,rfl⟩:=eG h.row (by omega);refine aD (ae (ai (ag (mvp rfl (aa (aB rfl) (aa (aj aV rfl) (aa (ar bM rfl (by exact (h2.blk.from_ (ak.rfl_.next E20)).rd 0 rfl)) ?_)))))));refine mvi rfl (aa (aJ aM rfl rfl (by omega)) (asp rfl (asi rfl (ah (ae (aA (dU (v:=.pointer _) (v':=.int _ _) rfl rfl rfl ?_)))))));rw [hg0];exact ⟨.inr ⟨by omega,i,fd,hf,.inr ⟨hfd,g,rfl,by rw [Nat.zero_add]⟩⟩,⟨ca2,h2.from_ (ak.rfl_.next E20)⟩,hC11.next ((ak.rfl_.next E20)).toChg⟩
theorem lf (U:Nat→Prop) (d:Nat) (D:List Fe) (fu:Nat) (off:Bool) (w:World) (hd:dk w U d D fu off) (nm:ByteArray) (hn:nm.size≤140737488351232) :
 Rt prog 18 [.pointer (some ⟨d,0,none⟩),.string nm] w (fun v w'=>(∃ A' c',v=.tuple #[.slice A' (cV D off nm).length c',.int .i64 (dh D off nm)]∧w'.ownsRow w.heap.size 5 1 (.slice A' (cV D off nm).length c') (cV D off nm).length (aT (cV D off nm)))∧ak w w'):=by
 have hd0:=hd;obtain ⟨fs,Ap,cp,ca,h,hD,hok,hfu0,hU⟩:=hd;subst hD;obtain ⟨hs,hl,hz⟩:=hok;rw [aF] at hl;refine enter (n:=34) Try.func18 rfl rfl rfl (ai (ag (ass rfl (asi rfl (ah (ae (ai (ai (ag (mvg rfl (gz (v:=.string _) bW rfl rfl rfl ?_)))))))))));intro b9 w1 E9 hb9 hk9;refine aG cw (cL (some ⟨b9,0,none⟩) 1 1 [nm] _ (eU (hk9.from_ ak.rfl_)) rfl (by omega) (fun s hs=>by rw [List.mem_singleton.1 hs];exact hn)) ?_;rintro v10 w2 ⟨rfl,E10⟩;refine aa (fx rfl) (ah (ae (mA rfl (fun Q3=>?_) (fun Q3=>?_))))
 ·have hok:okN nm=false:=by simpa using Q3
  refine ai (ag (ass rfl (asi rfl (ah (ae (aA (az (dU (v:=.slice _ _ _) (v':=.int _ _) rfl rfl rfl ?_))))))));have e1:dh (aH fs) off nm=1:=by unfold dh;rw [hok];rfl
  have e2:cV (aH fs) off nm=[]:=by unfold cV;rw [e1];rfl
  rw [e1,e2];exact ⟨⟨none,0,rfl,World.ownsRow_nil _ _ _ _⟩,((ak.rfl_.next E9).next E10)⟩
 have hok:okN nm=true:=by simpa using Q3
 refine aD (ae (ai (ai (ag (mvp rfl (aa (aB rfl) (aa (aj cD rfl) (aa (ar fL rfl (by exact (h.blk.from_ ((ak.rfl_.next E9).next E10)).rd 3 rfl)) ?_))))))));refine ah (ae (aE rfl (fun Q4=>?_) (fun Q4=>?_)))
 ·refine ai (ag (ass rfl (asi rfl (ah (ae (aA (az (dU (v:=.slice _ _ _) (v':=.int _ _) rfl rfl rfl ?_))))))));have e1:dh (aH fs) off nm=7:=by unfold dh;rw [hok];simp_all
  have e2:cV (aH fs) off nm=[]:=by unfold cV;rw [e1];rfl
  rw [e1,e2];exact ⟨⟨none,0,rfl,World.ownsRow_nil _ _ _ _⟩,((ak.rfl_.next E9).next E10)⟩
 refine aD (ae (ai (ag (mvp rfl (mvg rfl (aG ef (gE d fs Ap cp ca fu off _ (h.from_ ((ak.rfl_.next E9).next E10)) hs hl hfu0 nm) ?_))))));rintro v19 w5 ⟨⟨i,fd,rfl,hf⟩,E19⟩;refine mvt rfl (aa (aI rfl rfl) (aa (aI rfl rfl) (asi rfl (asb rfl (ah (ae (ai (ai (ag (mvb rfl (aa (fx rfl) (ah (ae ?_)))))))))))));refine mA rfl (fun Q6=>?_) (fun Q6=>?_)
 ·have hfd:fd=false:=by first | assumption | simp_all
  refine ai (ag (ass rfl (asi rfl (ah (ae (aA (az (dU (v:=.slice _ _ _) (v':=.int _ _) rfl rfl rfl ?_))))))));have e1:dh (aH fs) off nm=3:=by unfold dh;rw [hok,hf.has hs,hfd];simp_all
  have e2:cV (aH fs) off nm=[]:=by unfold cV;rw [e1];rfl
  rw [e1,e2];exact ⟨⟨none,0,rfl,World.ownsRow_nil _ _ _ _⟩,(((ak.rfl_.next E9).next E10).next E19)⟩
 have hfd:fd=true:=by first | assumption | simp_all
 obtain ⟨hi,hi2⟩:=hf.2.1 hfd;have hzi:=hz _ (List.getElem_mem (l:=aH fs) (n:=i) (by rw [aF];exact hi));rw [aY] at hzi;have hz1:fs[i].vs.length≤1048576:=hzi.1;obtain ⟨bp,op,rfl,hcd⟩:=(gU h.row).2 (by omega);have hce:=hcd i hi;refine aD (ae (ai (ag (mvp rfl (aa (aB rfl) (aa (aj aV rfl) (aa (ar bM rfl (by exact (h.blk.from_ (((ak.rfl_.next E9).next E10).next E19)).rd 0 rfl)) ?_)))))));refine mvi rfl (aa (aJ aM rfl rfl (by omega)) (aa (aj eS rfl) (aa (aj cm rfl) (aa (ar a8 rfl (by exact cg (((ak.rfl_.next E9).next E10).next E19) (by have h9:=hce 1 _ rfl;simpa using h9))) ?_))));have hz33:=((((ak.rfl_.next E9).next E10).next E19)).size;refine aG eh (aP fs[i].vA fs[i].vc fs[i].vs.length fs[i].vs _ (((h.ok _ (List.getElem_mem hi)).v).from_ (((ak.rfl_.next E9).next E10).next E19)) rfl (by omega)) ?_;rintro v33 w7 ⟨⟨A33,c33,rfl,ho33⟩,E33⟩;refine ass rfl (asi rfl (ah (ae (aA (dU (v:=.slice _ _ _) (v':=.int _ _) rfl rfl rfl ?_)))));have e1:dh (aH fs) off nm=0:=by unfold dh;rw [hok,hf.has hs,hfd];simp_all
 have e2:cV (aH fs) off nm=fs[i].vs:=by unfold cV;rw [e1,if_pos rfl,fj hs (i:=i) (by rw [aF];exact hi) (by rw [aY];exact hi2),aY];rfl
 rw [e1,e2];exact ⟨⟨A33,c33,rfl,iM ho33 hz33⟩,((((ak.rfl_.next E9).next E10).next E19).next E33)⟩
end Go.Proofs.Ytmbcbinocebodaa
namespace Go.Proofs.Ytmbcbinocebodaa
open Go.Proofs.Try (prog)
open Go.RowKit Go.ChangeShapes Go.WideShapes Go.ChangeAt
section
variable {P:Program} {ρ:Operand→Value} {w:World}
theorem iJ {s x:Operand} {t e size by_ m cap j c2 base:Nat} {A A2:Option Addr} {z:Value} {olds news:List Value} (hq:cF P t=some (e,size,by_,z)) (hzs:z.cells.size=size)
 (hs:ρ s=.slice A m cap) (hx:ρ x=.slice A2 j c2) (hol:olds.length=m*size) (hold:0<olds.length→∃ b o,A=some ⟨b,o,none⟩∧w.rangeAt b o olds) (hl:news.length=j*size) (hsrc:∃ b o,A2=some ⟨b,o,none⟩∧w.rangeAt b o news) (h1:∀ u∈news,u.oneCell'=true)
 (hg:cap<m+j) (h63:m+j≤maxLen) (hby:(m+j)*by_≤140737488355328) (hB:base≤w.heap.size) :
 ∃ c' w',RO P ρ (.call { callee:=.builtin .append,args:=#[s,x],argTypes:=#[t,t] }) w (.slice (some ⟨w.heap.size,0,none⟩) (m+j) c') w'∧ak w w'∧w'.ownsRow base e size (.slice (some ⟨w.heap.size,0,none⟩) (m+j) c') (m+j) (olds++news):=by
 obtain ⟨i,hu,hi,hsz,hb,hz⟩:=dY hq;subst hsz;subst hb;obtain ⟨b2,o2,rfl,hr2⟩:=hsrc
 have hld:(Builtin.firstCells i.size m (.slice A m cap)).run P w.drew=.ok olds.toArray w.drew:=by
  have:=dC (P:=P) (w:=w.drew) (n:=m*i.size) hol (fun h=>let ⟨b,o,h1,h2⟩:=hold h;⟨b,o,h1,fun j v hv=>h2 j v hv⟩);cases A <;> exact this
 have hnx:Builtin.nextslicecap (m+j) cap*i.bytes≤281474976710656:=growslice_fits hg hby;have hS:Src P i.size t (.slice (some ⟨b2,o2,none⟩) j c2) j news w:=Src.ofSlice w hu ⟨b2,o2,none⟩ j c2 news hl (fun k v hk=>by rw [Go.WideShapes.add_plain];exact hr2 k v hk) h1;have hrun:=fun ty=>run_append_grow_src (P:=P) w t t ty e i z hu hi hz A m cap olds hld (.slice (some ⟨b2,o2,none⟩) j c2) j news hS hg (by unfold maxLen at h63;omega) hnx
 have hcge:=grownCap_ge w (m+j) cap e;have hcle:=grownCap_le_maxLen w (m+j) cap e h63
 generalize grownCap w (m+j) cap e=c' at hrun hcge hcle
 have hlen:(olds++news).length=(m+j)*i.size:=by rw [List.length_append,hol,hl,Nat.add_mul]
 refine ⟨c',w.drew.alloc (.cells ((olds++news).toArray++Builtin.zeroCells z.cells (c'-(m+j))) e),fun dst ty pos after gg=>?_,ak.rfl_.d1.new _,⟨hlen,.inr ⟨w.heap.size,c',_,rfl,hB,Blk.new w.drew e _,hcge,hcle,?_,?_⟩⟩⟩
 ·unfold execOp;simp only [resolve,invoke,builtin,Sem.run_bind,Sem.run_pure,Result.andThen_ok,List.map_toArray,List.map_cons,List.map_nil,hs,hx,hrun]
 ·simp only [Array.size_append,size_zeroCells,hzs,List.size_toArray,hlen,←Nat.add_mul]
  congr 1
  omega
 ·rw [Array.toList_append];show (olds++news++_).take _=_;rw [List.take_append_of_le_length (by omega),List.take_of_length_le (by omega)]
theorem iK {s x:Operand} {t e size by_ m cap c2:Nat} {A A2:Option Addr} {z:Value} (hq:cF P t=some (e,size,by_,z)) (hs:ρ s=.slice A m cap) (hx:ρ x=.slice A2 0 c2) (hle:m≤cap) :
 RO P ρ (.call { callee:=.builtin .append,args:=#[s,x],argTypes:=#[t,t] }) w (.slice A m cap) w:=fun dst ty pos after gg=>by
 obtain ⟨i,hu,hi,hsz,hb,hz⟩:=dY hq
 have hS:Src P i.size t (.slice A2 0 c2) 0 [] w:=by
  cases A2 with
  |none=>exact Src.ofNil w hu c2
  |some a=>exact Src.ofSlice w hu a 0 c2 [] (by simp) (fun k v hk=>by simp at hk) (fun u hu=>by cases hu)
 have hrun:=run_append_nothing (P:=P) w t t ty e i hu hi A m cap hle _ hS;unfold execOp;simp only [resolve,invoke,builtin,Sem.run_bind,Sem.run_pure,Result.andThen_ok,List.map_toArray,List.map_cons,List.map_nil,hs,hx,hrun]
end
theorem jN {ρ : Operand → Value} {s x : Operand} {w : World} {f : Fl} {A2 : Option Addr} {c2 : Nat} {bs : List Nat} (hF : cQ w f) (hs : ρ s = .slice f.vA f.vs.length f.vc) (hx : ρ x = .slice A2 bs.length c2) (hb : RB w A2 c2 bs) (hl : f.vs.length + bs.length ≤ 1000000000) :
    ∃ (f' : Fl) (w2 : World), RO prog ρ (.call { callee := .builtin .append, args := #[s, x], argTypes := #[ 32, 32 ] }) w (.slice f'.vA f'.vs.length f'.vc) w2 ∧ f'.nm = f.nm ∧ f'.vs = f.vs ++ bs ∧ f'.ds = f.ds ∧ f'.dA = f.dA ∧ f'.dc = f.dc ∧
      Chg (fun k => f.own = true ∧ f.vA.map (·.block) = some k) w w2 ∧ cQ w2 f' ∧ (∀ k, f'.B k → f.B k ∨ w.heap.size ≤ k) ∧ (f'.own = true → ∀ k, f'.vA.map (·.block) = some k → (f.own = true ∧ f.vA.map (·.block) = some k) ∨ w.heap.size ≤ k) := by
  have hq : cF prog 32 = some (5, 1, 1, (.int .u8 0)) := by kernel_rfl
  have hb9 : ∀ b ∈ f.vs ++ bs, b < 256 := fun b h => (List.mem_append.1 h).elim (hF.v.bt b) (hb.bt b)
  rcases Nat.eq_zero_or_pos bs.length with h0 | h0
  · have e0 : bs = [] := List.eq_nil_of_length_eq_zero h0
    subst e0
    exact ⟨f, w, iK hq hs hx hF.v.le, rfl, (List.append_nil _).symm, rfl, rfl, rfl, Chg.rfl_, hF, fun k hk => .inl hk, fun ho k hk => .inl ⟨ho, hk⟩⟩
  obtain ⟨b2, o2, hA2, hr2⟩ := hb.at_ h0
  rcases Nat.lt_or_ge f.vc (f.vs.length + bs.length) with hg | hg
  ·
    obtain ⟨c', w2, hR, hFr, ho⟩ := iJ (base := 0) (olds := aT f.vs) (news := aT bs) hq rfl hs hx (by rw [aN, Nat.mul_one]) (fun h => hF.v.at_ (by rwa [aN] at h)) (by rw [aN, Nat.mul_one]) ⟨b2, o2, hA2, hr2⟩ (d_ bs) hg (by unfold maxLen; omega) (by omega) (Nat.zero_le _)
    rw [← cZ] at ho
    have hlen : (f.vs ++ bs).length = f.vs.length + bs.length := List.length_append
    refine ⟨⟨f.nm, some ⟨w.heap.size, 0, none⟩, c', f.dA, f.dc, f.vs ++ bs, f.ds, true⟩, w2, ?_, rfl, rfl, rfl, rfl, rfl, hFr.toChg, ⟨(RB.own ho hb9).2, hF.d.from_ hFr, TyB.own ho, hF.dt.from_ hFr, fun _ => ⟨?_, .inl ?_⟩, fun h => by cases h⟩, fun k hk => ?_, fun _ k hk => ?_⟩
    · show RO _ _ _ _ (.slice _ (f.vs ++ bs).length _) _
      rw [hlen]; exact hR
    · show w2.ownsRow 0 _ 1 (.slice _ (f.vs ++ bs).length _) (f.vs ++ bs).length _
      rw [hlen]; exact ho
    · intro p hp q hq e
      have h1 : w.heap.size = p := by cases hp; rfl
      have := hF.dt.lt q hq
      omega
    · rcases hk with hk | hk
      · exact .inr (by have h1 : w.heap.size = k := by cases hk; rfl
                       omega)
      · exact .inl (.inr hk)
    · exact .inr (by have h1 : w.heap.size = k := by cases hk; rfl
                     omega)
  ·
    have hown : f.own = true := by
      rcases Bool.eq_false_or_eq_true f.own with h | h
      · exact h
      · have := (hF.n h).2; omega
    obtain ⟨ho, hd⟩ := hF.o hown
    rcases ho.2 with ⟨h1, h2⟩ | ⟨g, cap, cur, h1, _, h3, h4, h5, h6, h7⟩
    · simp only [Value.slice.injEq] at h1
      omega
    · simp only [Value.slice.injEq, true_and] at h1
      obtain ⟨hvA, hvc⟩ := h1
      have hcl : cur.toList.length = f.vc := by rw [Array.length_toList, h6, hvc, Nat.mul_one]
      obtain ⟨w2, hR, hO, hP⟩ := iI (g := g) (cur := cur.toList) (news := aT bs) (e := 5) (size := 1) (by kernel_rfl) (hvA ▸ hs) hx (by rw [aN, Nat.mul_one]) (fun _ => ⟨b2, o2, hA2, hr2⟩) (by simpa [Blk] using h3) (d_ bs) hg (by rw [aN]; omega)
      have hlen : (f.vs ++ bs).length = f.vs.length + bs.length := List.length_append
      have ho2 : w2.ownsRow 0 5 1 (.slice (some ⟨g, 0, none⟩) (f.vs ++ bs).length f.vc) (f.vs ++ bs).length (aT (f.vs ++ bs)) := by
        rw [hlen]
        refine iL (Nat.zero_le _) hP hg (by rw [hvc]; exact h5) ?_ ?_
        · rw [bu _ _ _ (by rw [aN]; omega), hcl, Nat.mul_one]
        · rw [cZ, Nat.mul_one, Nat.mul_one]
          rw [Nat.mul_one] at h7
          unfold cB
          rw [h7, List.append_assoc, ← List.append_assoc, List.take_append_of_le_length (by rw [List.length_append, aN, aN]; omega), List.take_of_length_le (by rw [List.length_append, aN, aN]; omega)]
      have hC : Chg (fun k => f.own = true ∧ f.vA.map (·.block) = some k) w w2 := hO.toChg ⟨hown, by rw [hvA]; rfl⟩
      have hv2 := (RB.own ho2 hb9).2
      refine ⟨⟨f.nm, some ⟨g, 0, none⟩, f.vc, f.dA, f.dc, f.vs ++ bs, f.ds, true⟩, w2, ?_, rfl, rfl, rfl, rfl, rfl, hC, ⟨hv2, ?_, TyB.own ho2, ?_, fun _ => ⟨ho2, ?_⟩, fun h => by cases h⟩, fun k hk => .inl ?_, fun _ k hk => .inl ⟨hown, by rw [hvA]; exact hk⟩⟩
      · show RO _ _ _ _ (.slice _ (f.vs ++ bs).length _) _
        rw [hlen]; exact hR
      · show RB w2 f.dA f.dc f.ds
        rcases hd with hd | ⟨hd, r, hr⟩
        · exact hF.d.chg hC fun q hq hv => hd q hv.2 q hq rfl
        · rw [hd, hvA]
          rw [hr, List.append_assoc] at hv2
          exact hv2.pre.cap hF.d.le hF.d.mx
      · show TyB w2 f.dA
        rcases hd with hd | ⟨hd, r, hr⟩
        · exact hF.dt.chg hC fun q hq hv => hd q hv.2 q hq rfl
        · rw [hd, hvA]; exact TyB.own ho2
      · rcases hd with hd | ⟨hd, r, hr⟩
        · exact .inl (by rw [hvA] at hd; exact hd)
        · exact .inr ⟨by show f.dA = _; rw [hd, hvA], r ++ bs, by show f.vs ++ bs = _; rw [hr, List.append_assoc]⟩
      · rcases hk with hk | hk
        · exact .inl (by rw [hvA]; exact hk)
        · exact .inr hk
section
variable {w w':World} {d:Nat} {fs:List Fl} {Ap:Option Addr} {cp:Nat} {ca:Int} {fu:Nat} {off:Bool}
theorem DkH.put (h:DkH w d fs Ap cp ca fu off) {i:Nat} (hi:i<fs.length) {f':Fl} (c:Chg (fun k=>Ap.map (·.block)=some k∨(fs[i].own=true∧fs[i].vA.map (·.block)=some k)) w w')
 (hr:w'.ownsRow 0 63 3 (.slice Ap fs.length cp) fs.length ((fs.set i f').flatMap flV)) (hf:cQ w' f') (hB:∀ k,f'.B k→fs[i].B k∨w.heap.size≤k) (hO:f'.own=true→∀ k,f'.vA.map (·.block)=some k→(fs[i].own=true∧fs[i].vA.map (·.block)=some k)∨w.heap.size≤k):DkH w' d (fs.set i f') Ap cp ca fu off:=by
 have hset:∀ g∈fs.set i f',(∃ j,∃ hj:j<fs.length,j≠i∧g=fs[j])∨g=f':=fun g hg=>by
  obtain ⟨j,hj,rfl⟩:=List.getElem_of_mem hg;rw [List.length_set] at hj;rw [List.getElem_set];by_cases e:i=j
  ·exact .inr (by rw [if_pos e])
  ·exact .inl ⟨j,hj,fun e2=>e e2.symm,by rw [if_neg e]⟩
 have hsep:∀ j (hj:j<fs.length),j≠i→Sep fs[j] fs[i]:=fun j hj hne=>by
  rcases Nat.lt_or_gt_of_ne hne with e | e
  ·exact List.pairwise_iff_getElem.1 h.ap j i hj hi e
  ·exact (List.pairwise_iff_getElem.1 h.ap i j hi hj e).symm
 have hsep2:∀ j (hj:j<fs.length),j≠i→Sep fs[j] f':=fun j hj hne=>by
  refine ⟨fun ho k hk hb=>?_,fun ho k hk hb=>?_⟩
  ·rcases hB k hb with e | e
   ·exact (hsep j hj hne).1 ho k hk e
   ·have:=(h.ok _ (List.getElem_mem hj)).lt (k:=k) (.inl hk);omega
  ·rcases hO ho k hk with e | e
   ·exact (hsep j hj hne).2 e.1 k e.2 hb
   ·have:=(h.ok _ (List.getElem_mem hj)).lt hb;omega
 refine ⟨?_,by rw [List.length_set];exact hr,fun g hg=>?_,?_⟩
 ·rw [List.length_set];refine h.blk.chg c fun hv=>?_
  rcases hv with e | e
  ·exact b_ h.row h.blk (by decide) d e rfl
  ·exact h.bd (List.getElem_mem hi) (.inl e.2) rfl
 ·rcases hset g hg with ⟨j,hj,hne,rfl⟩ | rfl
  ·refine (h.ok _ (List.getElem_mem hj)).chg c fun k hk hv=>?_
   rcases hv with e | e
   ·exact h.bp (List.getElem_mem hj) hk e
   ·exact (hsep j hj hne).2 e.1 k e.2 hk
  ·exact hf
 ·rw [List.pairwise_iff_getElem];intro a b ha hb hab;rw [List.length_set] at ha hb;rw [List.getElem_set,List.getElem_set];by_cases ea:i=a
  ·subst ea;rw [if_pos rfl,if_neg (by omega)];exact (hsep2 b hb (by omega)).symm
  ·rw [if_neg ea];by_cases eb:i=b
   ·subst eb;rw [if_pos rfl];exact hsep2 a ha (by omega)
   ·rw [if_neg eb];exact List.pairwise_iff_getElem.1 h.ap a b ha hb hab
theorem eB {fs:List Fl} {i:Nat} {f':Fl}:aH (fs.set i f')=(aH fs).set i f'.abs:=List.map_set
def Nx (U:Nat→Prop) (w w':World) (k:Nat):Prop:=U k∨(w.heap.size≤k∧k<w'.heap.size)
end
end Go.Proofs.Ytmbcbinocebodaa
namespace Go.Proofs.Ytmbcbinocebodaa
open Go.Proofs.Try (prog)
open Go.RowKit
open Go.ChangeShapes Go.WideShapes Go.ChangeAt
theorem cd:cF prog 56=some (63,3,64,(.agg #[.string ⟨#[]⟩,.slice none 0 0,.slice none 0 0])):=by kernel_rfl
theorem fK:b8 prog 32=some 1:=by kernel_rfl
theorem ja:aO prog 31=true:=by kernel_rfl
theorem gJ:bT prog 61 1=some 1:=by kernel_rfl
theorem mw {fs:List Fl} {i:Nat} (x:Fl):(fs.flatMap flV).take (i*3)++flV x++(fs.flatMap flV).drop (i*3)=(fs.take i++x::fs.drop i).flatMap flV:=by rw [List.flatMap_append,List.flatMap_cons,gl db,eM db,List.append_assoc]
theorem lz {fs:List Fl} {i:Nat} (hi:i≤fs.length) (x:Fl):(fs.take i++x::fs.drop i).length=fs.length+1:=by rw [List.length_append,List.length_cons,List.length_take,List.length_drop];omega
theorem kQ (fs:List Fl) (i:Nat) (x:Fl):aH (fs.take i++x::fs.drop i)=(aH fs).take i++x.abs::(aH fs).drop i:=by unfold aH;rw [List.map_append,List.map_cons,List.map_take,List.map_drop]
theorem cQ.from_ {w w':World} {f:Fl} (h:cQ w f) (hF:ak w w'):cQ w' f:=h.chg (V:=fun _=>False) hF.toChg fun _ _ h=>h
def opE (D:List Fe) (ok:Bool) (fu:Nat) (off:Bool) (nm:ByteArray):Int:=if bE ok fu off≠0 then bE ok fu off else if dZ D nm then 0 else 3
section
variable {U:Nat→Prop} {w w':World} {d:Nat} {fs fs':List Fl} {Ap Ap':Option Addr} {cp cp':Nat} {ca ca':Int} {fu fu':Nat} {off off':Bool} {nm:ByteArray} {i:Nat} {fd:Bool}
theorem de (hU:∀ k,eE d Ap fs k→U k) (h:DkH w' d fs' Ap' cp' ca' fu' off') (hok:DOk (aH fs')) (hfu:fu'≤9223372036854775807) (hf:∀ k,eE d Ap' fs' k→eE d Ap fs k∨w.heap.size≤k):dk w' (Nx U w w') d (aH fs') fu' off':=
 ⟨fs',Ap',cp',ca',h,rfl,hok,hfu,fun k hk=>(hf k hk).elim (fun e=>.inl (hU k e)) fun e=>.inr ⟨e,h.lt hk⟩⟩
theorem cY (h:fu≤9223372036854775807) (ok:Bool):fuB ok fu≤9223372036854775807:=by unfold fuB;split <;> omega
theorem kk (h:DkH w d fs Ap cp ca fu off) (hs:KS (aH fs)) (hl:fs.length≤16) (hfu0:fu≤9223372036854775807) (hn:nm.size≤140737488351232) {b:Nat} (hb:Blk w b 9 #[.string nm]) (hbd:b≠d):Rt prog 31 [.pointer (some ⟨d,0,none⟩),.slice (some ⟨b,0,none⟩) 1 1] w fun v w'=>
 ((bE (okN nm) fu off≠0∧v=.tuple #[.pointer none,.int .i64 (bE (okN nm) fu off)])∨(bE (okN nm) fu off=0∧∃ i fd,Fnd fs nm i fd∧((fd=false∧v=.tuple #[.pointer none,.int .i64 3])∨(fd=true∧∃ g,Ap=some ⟨g,0,none⟩∧v=.tuple #[.pointer (some ⟨g,i*3,none⟩),.int .i64 0]))))∧(∃ ca',DkH w' d fs Ap cp ca' (fuB (okN nm) fu) (dX (okN nm) fu off))∧Chg (fun k=>k=d) w w':=
 (ll d fs Ap cp ca fu off w h hs hl hfu0 (some ⟨b,0,none⟩) 1 1 [nm] (eU hb) rfl (by omega) (fun s hs=>by rw [List.mem_singleton.1 hs];exact hn) (Nat.zero_lt_succ _) (fun q hq=>by cases hq;exact hbd)).mono fun v w' h=>by
  have e:[nm].all okN=okN nm:=by simp
  rw [e] at h;exact h
theorem jL (h:DkH w d fs Ap cp ca fu off) (hs:KS (aH fs)) (hl:fs.length≤16) (hfu0:fu≤9223372036854775807) (hn:nm.size≤140737488351232) {b:Nat} (hb:Blk w b 9 #[.string nm]):Rt prog 28 [.pointer (some ⟨d,0,none⟩),.slice (some ⟨b,0,none⟩) 1 1] w fun v w'=>
 v=.int .i64 (bE (okN nm) fu off)∧(∃ ca',DkH w' d fs Ap cp ca' (fuB (okN nm) fu) (dX (okN nm) fu off))∧Chg (fun k=>k=d) w w':=
 (ij d fs Ap cp ca fu off w h hs hl hfu0 (some ⟨b,0,none⟩) 1 1 [nm] (eU hb) rfl (by omega) (fun s hs=>by rw [List.mem_singleton.1 hs];exact hn)).mono fun v w' h=>by
  have e:[nm].all okN=okN nm:=by simp
  rw [e] at h;exact h
theorem DOk.set (h:DOk (aH fs)) (hs:KS (aH fs)) (hi:i<fs.length) (f':Fl) (hn:f'.nm=fs[i].nm) (hv:f'.vs.length≤1048576) (hd:f'.ds.length≤1048576):DOk (aH (fs.set i f')):=by
 have hia:i<(aH fs).length:=by rw [aF];exact hi
 refine ⟨?_,by rw [aF,List.length_set,←aF];exact h.2.1,fun e he=>?_⟩
 ·rw [eB]
  have e1:(aH fs).set i f'.abs=(aH fs).map fun e=>if e.1=fs[i].nm then f'.abs else e:=by
   rw [iO hs hia (id:=fs[i].nm) (by rw [aY];rfl) (fun _=>f'.abs)]
  rw [e1]
  exact hs.map fun e=>by
   split
   ·rename_i h9;rw [h9];exact hn
   ·rfl
 ·rw [eB] at he;rcases List.mem_or_eq_of_mem_set he with he | he
  ·exact h.2.2 e he
  ·rw [he];exact ⟨hv,hd⟩
end
theorem iS (base:Nat) (A:Option Addr) (c n i m b vo vc:Nat) (xs vs:List Value) (tv:TypeId) (csv:Array Value) (w:World) (ho:w.ownsRow base 63 3 (.slice A n c) n xs) (hbs:base≤w.heap.size) (hi:i≤n) (hm:0<m) (hvl:vs.length=m*3) (hvr:w.rangeAt b vo vs) (hvb:Blk w b tv csv) (hne:∀ k,A.map (·.block)=some k→k≠b) (h1:∀ u∈xs,u.oneCell'=true) (h1v:∀ u∈vs,u.oneCell'=true) (hl:n+m≤100000000000) :
 Rt prog 30 [.slice A n c,.int .i64 (i:Nat),.slice (some ⟨b,vo,none⟩) m vc] w (fun v w'=>(∃ A' c',v=.slice A' (n+m) c'∧w'.ownsRow base 63 3 (.slice A' (n+m) c') (n+m) (xs.take (i*3)++vs++xs.drop (i*3))∧∀ q,A'.map (·.block)=some q→A.map (·.block)=some q∨w.heap.size≤q)∧w.grownBy w' (A.map (·.block))):=by
 have hxl:xs.length=n*3:=ho.1;have hdl:(xs.drop (i*3)).length=(n-i)*3:=by rw [List.length_drop,hxl];omega
 have hcap:=lk ho;refine enter (n:=95) Try.func30 rfl rfl rfl (ai (ag (ass rfl (ah (ae (ai (ag (mvs rfl (mvi rfl (aa (bJ (l:=i) (h:=n) aM rfl (.inr ⟨_,_,_,rfl,rfl,rfl⟩) (.inl ⟨rfl,rfl⟩) (by omega) (by omega)) (ah (ae (ai (ag (mvs rfl ?_)))))))))))))));refine aa (aX c6 rfl) (asi rfl (ah (ae (ai (ai (ag (mvi rfl (aa (bO rfl rfl) (ah (ae (mB rfl (fun Q1=>?_) (fun Q1=>?_))))))))))))
 ·exfalso;omega
 refine aD (ae (ai (ag (mvs rfl (aa (aX c6 rfl) (asi rfl (ah (ae (ai (ai (ag (mvi rfl (mvi rfl (aa (bO rfl rfl) (ah (ae ?_))))))))))))))));refine mB rfl (fun Q2=>?_) (fun Q2=>?_)
 ·obtain rfl:i=n:=by omega
  refine ai (ag (mvs rfl (mvs rfl ?_)));have hs25:=Nat.le_refl (w).heap.size;refine iz cd rfl (by decide) rfl ho hbs rfl hvl ⟨b,vo,rfl,hvr⟩ h1v (by omega) (by omega) ?_;intro A25 c25 w3 ho25 hg25 hL25;refine ass rfl (ah (ae (aA (az (a_ (v:=.slice _ _ _) rfl rfl ?_)))));exact ⟨⟨A25,c25,rfl,by rw [List.take_of_length_le (by omega),List.drop_of_length_le (by omega),List.append_nil];exact ho25,fun q hq=>hL25.elim (fun e=>.inl (e ▸ hq)) (fun e=>.inr (by rw [e] at hq;cases hq;exact hs25))⟩,hg25⟩
 obtain ⟨g,cur,rfl,hg,hbk,hnc,hcm,hcl,hct⟩:=jm ho (by omega);have hgb:g≠b:=hne g rfl;have hbz:w.grownBy w (some g):=World.grownBy.refl _ _;refine aD (ae (ai (ai (ag (mvi rfl (mvi rfl (aa (aW rfl rfl (by omega)) (mvs rfl (aa (lX c6 rfl) (aa (bh rfl rfl) (ah (ae (mC rfl (fun Q4=>?_) (fun Q4=>?_))))))))))))))
 ·refine ai (ag (mvs rfl (mvi rfl (aa (cn (v':=.slice (some ⟨g,0,none⟩) i c) (bJ (l:=0) (h:=i) aM rfl (.inl ⟨rfl,rfl⟩) (.inr ⟨_,_,_,rfl,rfl,rfl⟩) (by omega) (by omega)) (by rw [eV,Nat.sub_zero,Nat.sub_zero])) ?_))));refine mvi rfl (mvi rfl (aa (aW rfl rfl (by omega)) (mvi rfl (aa (fh rfl rfl (by omega)) (iy (kn:=.i64) (olds:=xs.take (i*3)) cd (by kernel_rfl) rfl (by decide) rfl rfl (by rw [List.length_take,hxl];omega) (fun _=>⟨g,0,rfl,ka hbk hct⟩) (by omega) (by omega) (by unfold maxLen;omega) (by omega) (by omega) ?_)))));intro g2 c2 w5 cur2 hg2 E40 hb2 hc2 hc2m hcl2 hct2;obtain hc2:n+m≤c2:=by omega
  replace hbz:=cC hbz (ak.grown E40 _);replace hbk:=hbk.from_ E40;have hgg:g≠g2:=by have:=ho.lt g rfl;omega
  have hvr2:=dW E40 hvr;have hbg2:b≠g2:=by have:=hvb.lt;omega
  refine ass rfl (ah (ae (ai (ag (mvs rfl (mvi rfl (aa (bJ (l:=i) (h:=i+(n+m-i)) aM rfl (.inr ⟨_,_,_,rfl,rfl,rfl⟩) (.inl ⟨rfl,rfl⟩) (by omega) (by omega)) (mvs rfl (ej (news:=vs) (g:=g2) (o:=i*3) aM rfl rfl (by rw [hvl];congr 1;omega) (fun h=>by rw [cc (by omega),Nat.zero_add]) (fun h=>⟨b,vo,rfl,hvr2⟩) hb2 (by rw [hvl,hcl2];omega) h1v ?_)))))))));intro w6 O45 P45;replace hbz:=gk hbz O45 (by have:=hbk.lt;have:=ho.lt g rfl;omega);replace hbk:=hbk.only O45 hgg;refine ah (ae (ai ?_));apply bZ 8 [(46,eqp _),(47,eqp _),(48,eqp _),(49,eqp _),(50,eqp _),(51,eqp _),(52,eqp _),(53,eqp _)] (by repeat first | exact ck | refine cj ?_ | refine bS ?_) (by kernel_rfl) (by kernel_rfl) ⟨af _,af _,af _,af _,af _,af _,af _,af _,trivial⟩
  case hop=>
   constructor
   ·rintro-w8 D8;exact al (av (v:=.slice _ _ _) rfl) rfl
   constructor
   ·rintro-w9 D9;exact al (av (v:=.int _ _) rfl) rfl
   constructor
   ·rintro-w10 D10;exact al (av (v:=.int _ _) rfl) rfl
   constructor
   ·rintro-w11 D11;rintro _ rfl _ rfl;exact al (aW rfl rfl (by omega)) rfl
   constructor
   ·rintro-w12 D12;rintro _ rfl _ rfl;exact al (bJ (l:=i+m) (h:=i+(n+m-i)) aM rfl (.inr ⟨_,_,_,rfl,rfl,rfl⟩) (.inl ⟨rfl,rfl⟩) (by omega) (by omega)) rfl
   constructor
   ·rintro-w13 D13;exact al (av (v:=.slice _ _ _) rfl) rfl
   constructor
   ·rintro-w14 D14;exact al (av (v:=.int _ _) rfl) rfl
   constructor
   ·rintro-w15 D15;rintro _ rfl _ rfl;exact al (bJ (l:=i) (h:=n) aM rfl (.inr ⟨_,_,_,rfl,rfl,rfl⟩) (.inl ⟨rfl,rfl⟩) (by omega) (by omega)) rfl
   exact trivial
  case hend=>
   intro w16 D16;rintro _ rfl _ rfl _ rfl _ rfl _ rfl _ rfl _ rfl _ rfl;show St ..;replace hbz:=cC hbz (ak.grown D16 _);replace hbk:=hbk.from_ D16;replace P45:=P45.from_ D16;refine ej (news:=xs.drop (i*3)) (g:=g2) (o:=(i+m)*3) aM rfl rfl (by rw [hdl];congr 1;omega) (fun h=>by rw [cc (by rw [hdl] at h;omega),Nat.zero_add]) (fun h=>⟨g,i*3,by rw [cc (by omega),Nat.zero_add],gV hbk hct⟩) P45 (by rw [hdl,bu _ _ _ (by rw [hvl,hcl2];omega),hcl2];omega) (fun v hv=>h1 v (List.mem_of_mem_drop hv)) ?_;intro w17 O54 P54;replace hbz:=gk hbz O54 (by have:=ho.lt g rfl;omega);refine ah (ae (ai (ag (mvs rfl (ass rfl (ah (ae (aA (az (a_ (v:=.slice _ _ _) rfl rfl ?_))))))))));have hnm:i+(n+m-i)=n+m:=by omega
   rw [hnm];have hbg:base≤g2:=by omega
   exact ⟨⟨_,_,rfl,iL hbg P54 hc2 hc2m (by rw [bu _ _ _ (by rw [hdl,bu _ _ _ (by rw [hvl,hcl2];omega),hcl2];omega),bu _ _ _ (by rw [hvl,hcl2];omega),hcl2]) (nu hi hc2 hcl2 hxl hct2 hvl).2,fun q hq=>.inr (by cases hq;show w.heap.size≤g2;omega)⟩,hbz⟩
 refine aD (ae (ai (ag (mvs rfl (mvi rfl (mvi rfl (aa (aW rfl rfl (by omega)) (aa (cn (v':=.slice (some ⟨g,0,none⟩) (n+m) c) (bJ (l:=0) (h:=n+m) aM rfl (.inl ⟨rfl,rfl⟩) (.inr ⟨_,_,_,rfl,rfl,rfl⟩) (by omega) (by omega)) (by rw [eV,Nat.sub_zero,Nat.sub_zero])) ?_))))))));refine ass rfl (ah (ae (ai (ai (ag (mvs rfl (mvs rfl (mvi rfl (mvi rfl (aa (aW rfl rfl (by omega)) (aa (bJ (l:=i+m) (h:=n+m) aM rfl (.inr ⟨_,_,_,rfl,rfl,rfl⟩) (.inl ⟨rfl,rfl⟩) (by omega) (by omega)) ?_)))))))))));refine aa (gW (tS:=56) (tR:=4) (g1:=b) (o1:=vo) (g2:=g) (o2:=(i+m)*3) Try.func42 (by kernel_rfl) (by kernel_rfl) (by kernel_rfl) (by kernel_rfl) aM rfl (by show Value.slice _ _ _=_;rw [cc (by omega),Nat.zero_add]) hgb.symm hvb hbk (by simp only [List.size_toArray,hcl];omega)) ?_;refine aa (fv (fx rfl) rfl) (ah (ae (cP rfl (ai ?_))));apply bZ 8 [(69,eqp _),(70,eqp _),(71,eqp _),(72,eqp _),(73,eqp _),(74,eqp _),(75,eqp _),(76,eqp _)] (by repeat first | exact ck | refine cj ?_ | refine bS ?_) (by kernel_rfl) (by kernel_rfl) ⟨af _,af _,af _,af _,af _,af _,af _,af _,trivial⟩
 case hop=>
  constructor
  ·rintro-w19 D19;exact al (av (v:=.slice _ _ _) rfl) rfl
  constructor
  ·rintro-w20 D20;exact al (av (v:=.int _ _) rfl) rfl
  constructor
  ·rintro-w21 D21;exact al (av (v:=.int _ _) rfl) rfl
  constructor
  ·rintro-w22 D22;rintro _ rfl _ rfl;exact al (aW rfl rfl (by omega)) rfl
  constructor
  ·rintro-w23 D23;rintro _ rfl _ rfl;exact al (bJ (l:=i+m) (h:=n+m) aM rfl (.inr ⟨_,_,_,rfl,rfl,rfl⟩) (.inl ⟨rfl,rfl⟩) (by omega) (by omega)) rfl
  constructor
  ·rintro-w24 D24;exact al (av (v:=.slice _ _ _) rfl) rfl
  constructor
  ·rintro-w25 D25;exact al (av (v:=.int _ _) rfl) rfl
  constructor
  ·rintro-w26 D26;rintro _ rfl _ rfl;exact al (bJ (l:=i) (h:=n+m) aM rfl (.inr ⟨_,_,_,rfl,rfl,rfl⟩) (.inl ⟨rfl,rfl⟩) (by omega) (by omega)) rfl
  exact trivial
 case hend=>
  intro w27 D27;rintro _ rfl _ rfl _ rfl _ rfl _ rfl _ rfl _ rfl _ rfl;show St ..;replace hbz:=cC hbz (ak.grown D27 _);replace hbk:=hbk.from_ D27;have hvr2:=dW D27 hvr;refine ej (news:=xs.drop (i*3)) (g:=g) (o:=(i+m)*3) aM rfl rfl (by rw [hdl];congr 1;omega) (fun h=>by rw [cc (by rw [hdl] at h;omega),Nat.zero_add]) (fun h=>⟨g,i*3,by rw [cc (by omega),Nat.zero_add],gV hbk hct⟩) hbk (by rw [hdl,hcl];omega) (fun v hv=>h1 v (List.mem_of_mem_drop hv)) ?_;intro w28 O77 P77;replace hbz:=cC hbz (bI.grown O77);refine ah (ae (ai (ag (mvs rfl (mvi rfl (aa (bJ (l:=i) (h:=n+m) aM rfl (.inr ⟨_,_,_,rfl,rfl,rfl⟩) (.inl ⟨rfl,rfl⟩) (by omega) (by omega)) (mvs rfl ?_)))))));refine ej (news:=vs) (g:=g) (o:=i*3) aM rfl rfl (by rw [hvl];congr 1;omega) (fun h=>by rw [cc (by omega),Nat.zero_add]) (fun h=>⟨b,vo,rfl,fun j v hv=>(O77.cell (Ne.symm hgb)).trans (hvr2 j v hv)⟩) P77 (by rw [hvl,bu _ _ _ (by rw [hdl,hcl];omega),hcl];omega) h1v ?_;intro w29 O82 P82;replace hbz:=cC hbz (bI.grown O82);refine ah (ae (ai (ag (mvs rfl (ass rfl (ah (ae (aA (az (a_ (v:=.slice _ _ _) rfl rfl ?_))))))))));have hct3:cur.take (i*3)=xs.take (i*3):=by rw [←hct,List.take_take,Nat.min_eq_left (by omega)]
  exact ⟨⟨_,_,rfl,iL hg P82 (by omega) hcm (by rw [bu _ _ _ (by rw [hvl,bu _ _ _ (by rw [hdl,hcl];omega),hcl];omega),bu _ _ _ (by rw [hdl,hcl];omega),hcl]) (nu hi (by omega) hcl hxl hct3 hvl).1,fun q hq=>.inl hq⟩,hbz⟩
def dp (D:List Fe) (fu:Nat) (off:Bool) (nm:ByteArray):List Fe:=if opE D (okN nm) fu off nm=0 then lj D nm (cX D nm) else D
def mZ (D:List Fe) (fu:Nat) (off:Bool) (nm:ByteArray):List Fe:=if opE D (okN nm) fu off nm=0 then l_ D nm else D
def mQ (D:List Fe) (fu:Nat) (off:Bool) (nm:ByteArray) (n:Int):Int:=if n<0 then 1 else if opE D (okN nm) fu off nm≠0 then opE D (okN nm) fu off nm else if ((cX D nm).length:Int)<n then 1 else 0
def nb (D:List Fe) (fu:Nat) (off:Bool) (nm:ByteArray) (n:Int):List Fe:=if mQ D fu off nm n=0 then jE D nm ((cX D nm).take n.toNat) else D
theorem jh (U:Nat→Prop) (d:Nat) (D:List Fe) (fu:Nat) (off:Bool) (w:World) (hd:dk w U d D fu off) (nm:ByteArray) (hn:nm.size≤140737488351232) :
 Rt prog 11 [.pointer (some ⟨d,0,none⟩),.string nm] w (fun v w'=>v=.int .i64 (opE D (okN nm) fu off nm)∧dk w' (Nx U w w') d (dp D fu off nm) (fuB (okN nm) fu) (dX (okN nm) fu off)∧Chg U w w'):=by
 have hd0:=hd;obtain ⟨fs,Ap,cp,ca,h,hD,hok,hfu0,hU⟩:=hd;subst hD;obtain ⟨hs,hl,hz⟩:=hok;rw [aF] at hl;refine enter (n:=26) Try.func11 rfl rfl rfl (ai (ag (asi rfl (ah (ae (ai (ag (mvp rfl (mvg rfl (gz (v:=.string _) bW rfl rfl rfl ?_))))))))));intro b10 w1 E10 hb10 hk10;have hF11:ak w _:=(ak.rfl_.next E10);have hbd:b10≠d:=by have:=h.blk.lt;omega
 refine aG ja (kk (h.from_ (ak.rfl_.next E10)) hs hl hfu0 hn hk10 hbd) ?_;rintro v11 w2 ⟨hop,⟨ca2,h2⟩,hC11⟩;have hT:=(hF11.toChg (U:=U)).next (hC11.wide fun k hk=>.inl (by rw [hk];exact hU d (.inl rfl)));rcases hop with ⟨hz0,rfl⟩ | ⟨hz0,i,fd,hf,⟨hfd,rfl⟩ | ⟨hfd,g,rfl,rfl⟩⟩
 ·refine mvt rfl (aa (aI rfl rfl) (aa (aI rfl rfl) (asp rfl (asi rfl (ah (ae (ai (ai (ag (mvi rfl (aa (bD rfl rfl) (ah (ae ?_)))))))))))));refine mz rfl (fun Q3=>?_) (fun Q3=>?_);rotate_left
  ·exfalso;omega
  refine ai (ag (mvi rfl (asi rfl (ah (ae (aA (az (a_ (v:=.int _ _) rfl rfl ?_))))))))
  first
   |(have e1:opE (aH fs) (okN nm) fu off nm=bE (okN nm) fu off:=by unfold opE;rw [if_pos hz0]
     rw [e1];refine ⟨rfl,?_,hT.next (ak.rfl_).toChg⟩;rw [show dp (aH fs) fu off nm=aH fs by unfold dp;rw [e1,if_neg hz0]];exact de hU (h2.from_ ak.rfl_) ⟨hs,by rw [aF];exact hl,hz⟩ (cY hfu0 _) fun k hk=>.inl hk)
   |(have e1:opE (aH fs) (okN nm) fu off nm=3:=by unfold opE;rw [if_neg (by omega),hf.has hs,hfd];rfl
     rw [e1];refine ⟨rfl,?_,hT.next (ak.rfl_).toChg⟩;rw [show dp (aH fs) fu off nm=aH fs by unfold dp;rw [e1,if_neg (by decide)]];exact de hU (h2.from_ ak.rfl_) ⟨hs,by rw [aF];exact hl,hz⟩ (cY hfu0 _) fun k hk=>.inl hk)
 ·refine mvt rfl (aa (aI rfl rfl) (aa (aI rfl rfl) (asp rfl (asi rfl (ah (ae (ai (ai (ag (mvi rfl (aa (bD rfl rfl) (ah (ae ?_)))))))))))));refine mz rfl (fun Q5=>?_) (fun Q5=>?_);rotate_left
  ·exfalso;omega
  refine ai (ag (mvi rfl (asi rfl (ah (ae (aA (az (a_ (v:=.int _ _) rfl rfl ?_))))))))
  first
   |(have e1:opE (aH fs) (okN nm) fu off nm=bE (okN nm) fu off:=by unfold opE;rw [if_pos hz0]
     rw [e1];refine ⟨rfl,?_,hT.next (ak.rfl_).toChg⟩;rw [show dp (aH fs) fu off nm=aH fs by unfold dp;rw [e1,if_neg hz0]];exact de hU (h2.from_ ak.rfl_) ⟨hs,by rw [aF];exact hl,hz⟩ (cY hfu0 _) fun k hk=>.inl hk)
   |(have e1:opE (aH fs) (okN nm) fu off nm=3:=by unfold opE;rw [if_neg (by omega),hf.has hs,hfd];rfl
     rw [e1];refine ⟨rfl,?_,hT.next (ak.rfl_).toChg⟩;rw [show dp (aH fs) fu off nm=aH fs by unfold dp;rw [e1,if_neg (by decide)]];exact de hU (h2.from_ ak.rfl_) ⟨hs,by rw [aF];exact hl,hz⟩ (cY hfu0 _) fun k hk=>.inl hk)
 obtain ⟨hi,hi2⟩:=hf.2.1 hfd;have hia:i<(aH fs).length:=by rw [aF];exact hi
 have hk1:(aH fs)[i].1=nm:=by rw [aY];exact hi2
 have hzi:=hz _ (List.getElem_mem hia);rw [aY] at hzi;have hz1:fs[i].vs.length≤1048576:=hzi.1;have hz2:fs[i].ds.length≤1048576:=hzi.2;have hgv:cX (aH fs) nm=fs[i].vs:=by rw [fj hs hia hk1,aY];rfl
 obtain ⟨bp,op,e9,hcd⟩:=(gU h2.row).2 (by omega);cases e9;have hce:=hcd i hi;have hfi:=h2.ok _ (List.getElem_mem hi);refine mvt rfl (aa (aI rfl rfl) (aa (aI rfl rfl) (asp rfl (asi rfl (ah (ae (ai (ai (ag (mvi rfl (aa (bD rfl rfl) (ah (ae ?_)))))))))))));refine mz rfl (fun Q7=>?_) (fun Q7=>?_)
 ·exfalso;omega
 refine aD (ae (ai (ag (mvp rfl (mvp rfl (aa (aB rfl) (aa (aj eS rfl) (aa (aj cm rfl) (aa (ar a8 rfl (by have h9:=hce 1 _ rfl;simpa [Nat.add_assoc] using cg ak.rfl_ h9)) ?_)))))))));refine aa (aB rfl) (aa (aj eS rfl) (aa (aj gJ rfl) ?_));have hF4:ak _ w2:=ak.rfl_;refine ix (o:=i*3+2) (v:=.slice fs[i].vA fs[i].vs.length fs[i].vc) fK rfl rfl rfl (h2.row.kept_from hF4) (by omega) ?_;intro w8 O4 P4;refine ah (ae (ai (ag (asi rfl (ah (ae (aA (a_ (v:=.int _ _) rfl rfl ?_))))))));have e1:opE (aH fs) (okN nm) fu off nm=0:=by unfold opE;rw [if_neg (by omega),hf.has hs,hfd];rfl
 obtain ⟨f2,hf2⟩:∃ f2:Fl,f2={ fs[i] with dA:=fs[i].vA,dc:=fs[i].vc,ds:=fs[i].vs }:=⟨_,rfl⟩;have hP:=P4;rw [gT db fs i 2 hi (by decide) f2 (.slice fs[i].vA fs[i].vs.length fs[i].vc) (by rw [hf2];rfl)] at hP;have hk:=h2.put hi (f':=f2) (w':=w8) (hF4.toChg.next (O4.toChg (.inl rfl))) hP (by rw [hf2];exact ⟨(hfi.from_ hF4).v.chg (O4.toChg (U:=fun k=>k=g) rfl) (fun q hq e=>h2.bp (List.getElem_mem hi) (.inl hq) (by rw [e];rfl)),(hfi.from_ hF4).v.chg (O4.toChg (U:=fun k=>k=g) rfl) (fun q hq e=>h2.bp (List.getElem_mem hi) (.inl hq) (by rw [e];rfl)),(hfi.from_ hF4).vt.chg (O4.toChg (U:=fun k=>k=g) rfl) (fun q hq e=>h2.bp (List.getElem_mem hi) (.inl hq) (by rw [e];rfl)),(hfi.from_ hF4).vt.chg (O4.toChg (U:=fun k=>k=g) rfl) (fun q hq e=>h2.bp (List.getElem_mem hi) (.inl hq) (by rw [e];rfl)),fun ho=>⟨ep (((hfi.from_ hF4).o ho).1) (O4.toChg (U:=fun k=>k=g) rfl) (fun q hq e=>h2.bp (List.getElem_mem hi) (.inl hq) (by rw [e];rfl)),.inr ⟨rfl,[],(List.append_nil _).symm⟩⟩,hfi.n⟩) (by rw [hf2];exact fun k hk=>.inl (hk.elim .inl .inl)) (by rw [hf2];exact fun ho k hk=>.inl ⟨ho,hk⟩);have hD:aH (fs.set i f2)=lj (aH fs) nm (cX (aH fs) nm):=by rw [eB,lh hs hia hk1,hgv,aY,hf2,←hi2];rfl
 rw [e1];refine ⟨rfl,?_,hT.next (hF4.toChg.next (O4.toChg (hU g (.inr (.inl rfl)))))⟩;rw [show dp (aH fs) fu off nm=aH (fs.set i f2) by unfold dp;rw [e1,if_pos rfl,hD]];refine de hU hk (DOk.set ⟨hs,by rw [aF];exact hl,hz⟩ hs hi f2 (by rw [hf2]) (by rw [hf2];exact hz1) (by rw [hf2];exact hz1)) (cY hfu0 _) fun k hk=>?_
 rcases hk with e | e | ⟨f3,h3,e⟩
 ·exact .inl (.inl e)
 ·exact .inl (.inr (.inl e))
 ·rcases List.mem_or_eq_of_mem_set h3 with h3 | h3
  ·exact .inl (.inr (.inr ⟨f3,h3,e⟩))
  ·exact .inl (.inr (.inr ⟨fs[i],List.getElem_mem hi,by rw [h3,hf2] at e;exact e.elim .inl .inl⟩))
end Go.Proofs.Ytmbcbinocebodaa
namespace Go.Proofs.Ytmbcbinocebodaa
open Go.Proofs.Try (prog)
open Go.RowKit
open Go.ChangeShapes Go.WideShapes Go.ChangeAt
end Go.Proofs.Ytmbcbinocebodaa
namespace Go.Proofs.Ytmbcbinocebodaa
open Go.Proofs.Try (prog)
open Go.RowKit
abbrev PT:=List (Nat×Nat×((Nat→Bool)→Value→World→Prop))
def ee (L:List (Nat×Value)) (T:PT) (S:Nat→Bool) (L':List (Nat×Value)) (w:World):Prop:=
 (∀ t,(∀ p∈T,p.2.1≠t)→aC L' t=aC L t)∧(∀ p∈T,S p.1=true→p.2.2 S (aC L' p.2.1) w)∧∀ p∈T,S p.1=false→aC L' p.2.1=aC L p.2.1
def ik:List (Nat×Nat)→Prop
 |[]=>True
 |p::r=>(∀ q∈r,q.1≠p.1∧q.2≠p.2)∧ik r
def kV:List (Nat×Nat)→Bool
 |[]=>true
 |p::r=>(r.all fun q=> !(Nat.beq q.1 p.1)&&!(Nat.beq q.2 p.2))&&kV r
theorem km {a b:Nat}:Nat.beq a b=false↔a≠b:=by
 refine ⟨fun h e=>?_,fun h=>?_⟩
 ·subst e;rw [Nat.beq_refl] at h;cases h
 ·rcases hb:Nat.beq a b with _ | _
  ·rfl
  ·exact absurd (Nat.eq_of_beq_eq_true hb) h
theorem jg:∀ {l:List (Nat×Nat)},kV l=true→ik l
 |[],_=>trivial
 |p::r,h=>by
  simp only [kV,Bool.and_eq_true,List.all_eq_true,Bool.not_eq_true',km] at h;exact ⟨fun q hq=>h.1 q hq,jg h.2⟩
theorem fe:∀ {T:PT},ik (T.map fun p=>(p.1,p.2.1))→∀ {p q:Nat×Nat×((Nat→Bool)→Value→World→Prop)},p∈T→q∈T→p.1=q.1∨p.2.1=q.2.1→p=q
 |_::_,⟨h1,h2⟩,p,q,hp,hq,he=>by
  rcases List.mem_cons.1 hp with rfl | hp' <;> rcases List.mem_cons.1 hq with rfl | hq'
  ·rfl
  ·rcases he with e | e
   ·exact absurd e.symm (h1 _ (List.mem_map_of_mem (f:=fun p=>(p.1,p.2.1)) hq')).1
   ·exact absurd e.symm (h1 _ (List.mem_map_of_mem (f:=fun p=>(p.1,p.2.1)) hq')).2
  ·rcases he with e | e
   ·exact absurd e (h1 _ (List.mem_map_of_mem (f:=fun p=>(p.1,p.2.1)) hp')).1
   ·exact absurd e (h1 _ (List.mem_map_of_mem (f:=fun p=>(p.1,p.2.1)) hp')).2
  ·exact fe h2 hp' hq' he
theorem ee.get {L:List (Nat×Value)} {T:PT} {S:Nat→Bool} {L':List (Nat×Value)} {w:World} {i d:Nat} {R:(Nat→Bool)→Value→World→Prop} (h:ee L T S L' w) (hp:(i,d,R)∈T) (hs:S i=true):∃ v,aC L' d=v∧R S v w:=⟨_,rfl,h.2.1 _ hp hs⟩
theorem j9 {S:Nat→Bool} {i k:Nat} (h:bC S i k=false):S k=false:=by
 unfold bC at h;split at h
 ·cases h
 ·exact h
theorem n8 {S:Nat→Bool} {i k:Nat} (hk:k≠i) (h:bC S i k=true):S k=true:=by
 unfold bC at h
 rwa [if_neg hk] at h
theorem k5 (S:Nat→Bool) (i:Nat):bC S i i=true:=by unfold bC;rw [if_pos rfl]
theorem mo {S:Nat→Bool} {i k:Nat} (hk:k≠i):bC S i k=S k:=by unfold bC;rw [if_neg hk]
def fJ (Mu:List Nat):PT→Prop
 |[]=>True
 |p::r=>(∀ S i v w1 w2,Mu.elem i=false→ak w1 w2→p.2.2 S v w1→p.2.2 (bC S i) v w2)∧fJ Mu r
def ChP (i:Nat) (S:Nat→Bool) (w1 w2:World):PT→Prop
 |[]=>True
 |p::r=>(Nat.beq p.1 i=false→S p.1=true→∀ v,p.2.2 S v w1→p.2.2 (bC S i) v w2)∧ChP i S w1 w2 r
theorem hG {Mu:List Nat}:∀ {T:PT},fJ Mu T→∀ p∈T,∀ S i v w1 w2,Mu.elem i=false→ak w1 w2→p.2.2 S v w1→p.2.2 (bC S i) v w2
 |_::_,⟨h1,h2⟩,p,hp=>by
  rcases List.mem_cons.1 hp with rfl | hp
  ·exact h1
  ·exact hG h2 p hp
theorem iX {i:Nat} {S:Nat→Bool} {w1 w2:World}:∀ {T:PT},ChP i S w1 w2 T→∀ p∈T,p.1≠i→S p.1=true→∀ v,p.2.2 S v w1→p.2.2 (bC S i) v w2
 |_::_,⟨h1,h2⟩,p,hp=>by
  rcases List.mem_cons.1 hp with rfl | hp
  ·exact fun hne=>h1 (by rw [km];exact hne)
  ·exact iX h2 p hp
theorem ee.next {L:List (Nat×Value)} {T:PT} {S:Nat→Bool} {L':List (Nat×Value)} {w w':World} {i d:Nat} {v:Value} {R:(Nat→Bool)→Value→World→Prop} (h:ee L T S L' w) (hU:ik (T.map fun p=>(p.1,p.2.1))) (hp:(i,d,R)∈T) (hR:R (bC S i) v w')
 (hst:∀ p∈T,p.1≠i→S p.1=true→∀ v,p.2.2 S v w→p.2.2 (bC S i) v w'):ee L T (bC S i) ((d,v)::L') w':=by
 refine ⟨fun t ht=>?_,fun p hq hs=>?_,fun p hq hs=>?_⟩
 ·rw [aK,if_neg (fun e=>ht _ hp e.symm)];exact h.1 t ht
 ·rw [aK];by_cases e:p.2.1=d
  ·rw [if_pos e,fe hU hq hp (.inr e)];exact hR
  ·rw [if_neg e];have e2:p.1≠i:=fun e2=>e (congrArg (·.2.1) (fe hU hq hp (.inl e2)))
   have hs':=n8 e2 hs;exact hst p hq e2 hs' _ (h.2.1 p hq hs')
 ·have hs':=j9 hs;have e2:p.1≠i:=fun e2=>by rw [e2,k5] at hs;cases hs
  rw [aK,if_neg (fun e=>e2 (congrArg (·.1) (fe hU hq hp (.inr e))))];exact h.2.2 p hq hs'
theorem ee.same {L:List (Nat×Value)} {T:PT} {S:Nat→Bool} {L':List (Nat×Value)} {w w':World} {i:Nat} (h:ee L T S L' w) (hi:∀ p∈T,p.1≠i)
 (hst:∀ p∈T,p.1≠i→S p.1=true→∀ v,p.2.2 S v w→p.2.2 (bC S i) v w'):ee L T (bC S i) L' w':=by
 refine ⟨h.1,fun p hq hs=>?_,fun p hq hs=>h.2.2 p hq (j9 hs)⟩;have hs':=n8 (hi p hq) hs;exact hst p hq (hi p hq) hs' _ (h.2.1 p hq hs')
def nN (L':List (Nat×Value)):List (Nat×Value)→Prop
 |[]=>True
 |(t,v)::r=>aC L' t=v∧nN L' r
theorem gq {L':List (Nat×Value)}:∀ {M:List (Nat×Value)},nN L' M→∀ t,(M.map Prod.fst).elem t=true→aC M t=aC L' t
 |(k,v)::r,⟨h1,h2⟩,t,ht=>by
  rw [aK];by_cases e:t=k
  ·rw [if_pos e,e,h1]
  ·rw [if_neg e];refine gq h2 t ?_;simpa [e] using ht
section
variable {P:Program} {Q:Exit→Act→World→Prop} {n:Fr} {L L' M:List (Nat×Value)} {w w' w'':World} {l:List Oper} {T:PT} {Mem:(Nat→Bool)→World→Prop} {Mu:List Nat} {S:Nat→Bool} {op:Op} {ty:TypeId} {pos:String} {after:Array Edge} {i d:Nat} {v:Value} {R:(Nat→Bool)→Value→World→Prop}
theorem fH {dst:Option Nat} (hs:aQ op=false) (hk:(((⟨dst,op,ty,pos,after,none⟩:Oper).looksAt #[]).all fun t=>(M.map Prod.fst).elem t)=true) (hag:nN L' M):execOp (ev n L') ⟨dst,op,ty,pos,after,none⟩=execOp (ev n M) ⟨dst,op,ty,pos,after,none⟩:=by
 have h:∀ t,((⟨dst,op,ty,pos,after,none⟩:Oper).looksAt #[]).elem t=true→aC M t=aC L' t:=fun t ht=>
  gq hag t (List.all_eq_true.1 hk t (List.elem_iff.1 ht))
 exact (bK (n:=n) (ops:=#[]) (o:=⟨dst,op,ty,pos,after,none⟩) hs h).1.symm
abbrev il (P:Program) (n:Fr) (L:List (Nat×Value)) (T:PT) (Mem:(Nat→Bool)→World→Prop) (S:Nat→Bool) (i:Nat) (o:Oper) (L':List (Nat×Value)) (w':World):Prop:=eC P n o (fun L2 w2=>ee L T (bC S i) L2 w2∧Mem (bC S i) w2) L' w'
theorem l4 (hmo:fJ Mu T) (hq:Mu.elem i=false) (hF:ak w' w''):∀ p∈T,p.1≠i→S p.1=true→∀ v,p.2.2 S v w'→p.2.2 (bC S i) v w'':=fun p hp _ _ v h=>hG hmo p hp S i v w' w'' hq hF h
theorem a6 (M:List (Nat×Value)) (hU:ik (T.map fun p=>(p.1,p.2.1))) (hmo:fJ Mu T) (hme:∀ S i w1 w2,Mu.elem i=false→ak w1 w2→Mem S w1→Mem (bC S i) w2) (hI:ee L T S L' w') (hM:Mem S w') (hp:(i,d,R)∈T) (hq:Mu.elem i=false)
 (hs:aQ op=false) (hk:(((⟨some d,op,ty,pos,after,none⟩:Oper).looksAt #[]).all fun t=>(M.map Prod.fst).elem t)=true) (hag:nN L' M) (hr:RO P (ev n M) op w' v w'') (hF:ak w' w'') (hR:R (bC S i) v w''):il P n L T Mem S i ⟨some d,op,ty,pos,after,none⟩ L' w':=
 .inl ⟨d,v,w'',rfl,by rw [fH hs hk hag];exact hr _ _ _ _ _,hI.next hU hp hR (l4 hmo hq hF),hme S i _ _ hq hF hM⟩
theorem j4 (M:List (Nat×Value)) (hU:ik (T.map fun p=>(p.1,p.2.1))) (hI:ee L T S L' w') (hp:(i,d,R)∈T)
 (hs:aQ op=false) (hk:(((⟨some d,op,ty,pos,after,none⟩:Oper).looksAt #[]).all fun t=>(M.map Prod.fst).elem t)=true) (hag:nN L' M) (hr:RO P (ev n M) op w' v w'') (hM:Mem (bC S i) w'') (hR:R (bC S i) v w'') (hC:ChP i S w' w'' T):il P n L T Mem S i ⟨some d,op,ty,pos,after,none⟩ L' w':=
 .inl ⟨d,v,w'',rfl,by rw [fH hs hk hag];exact hr _ _ _ _ _,hI.next hU hp hR (iX hC),hM⟩
theorem j3 (M:List (Nat×Value)) (hI:ee L T S L' w') (hi:∀ p∈T,p.1≠i)
 (hs:aQ op=false) (hk:(((⟨none,op,ty,pos,after,none⟩:Oper).looksAt #[]).all fun t=>(M.map Prod.fst).elem t)=true) (hag:nN L' M) (hr:RS P (ev n M) op w' w'') (hM:Mem (bC S i) w'') (hC:ChP i S w' w'' T):il P n L T Mem S i ⟨none,op,ty,pos,after,none⟩ L' w':=
 .inr (.inl ⟨w'',rfl,by rw [fH hs hk hag];exact hr _ _ _ _ _,hI.same hi (iX hC),hM⟩)
def lM (S:Nat→Bool) (w:World):PT→(List (Nat×Value)→Prop)→Prop
 |[],K=>K []
 |p::r,K=>∀ v,p.2.2 S v w→lM S w r fun M=>K ((p.2.1,v)::M)
theorem kP {S:Nat→Bool} {w:World} {K:List (Nat×Value)→Prop} (h:K []):lM S w [] K:=h
theorem ju {S:Nat→Bool} {w:World} (ρ:Nat→Value):∀ (l:PT) {K:List (Nat×Value)→Prop},(∀ p∈l,p.2.2 S (ρ p.2.1) w)→lM S w l K→K (l.map fun p=>(p.2.1,ρ p.2.1))
 |[],_,_,h=>h
 |p::r,_,hr,h=>ju ρ r (fun e he=>hr e (List.mem_cons_of_mem _ he)) (h (ρ p.2.1) (hr p (List.mem_cons_self ..)))
theorem jG (ρ:Nat→Value) (T:PT) (L:List (Nat×Value)) (t:Nat):((∃ p∈T,p.2.1=t)∧aC (T.map (fun p=>(p.2.1,ρ p.2.1))++L) t=ρ t)∨((∀ p∈T,p.2.1≠t)∧aC (T.map (fun p=>(p.2.1,ρ p.2.1))++L) t=aC L t):=by
 induction T with
 |nil=>exact .inr ⟨fun p hp=>by simp at hp,rfl⟩
 |cons q r ih=>
  rw [List.map_cons,List.cons_append,aK];by_cases e:t=q.2.1
  ·rw [if_pos e,←e];exact .inl ⟨⟨q,.head _,e.symm⟩,rfl⟩
  ·rw [if_neg e];rcases ih with ⟨⟨p,hp,h1⟩,h2⟩ | ⟨h1,h2⟩
   ·exact .inl ⟨⟨p,.tail _ hp,h1⟩,h2⟩
   ·refine .inr ⟨fun p hp=>?_,h2⟩;rcases List.mem_cons.1 hp with rfl | hp2
    ·exact fun e2=>e e2.symm
    ·exact h1 p hp2
theorem kj {T:PT} {t:Nat} (h:(T.map fun p=>p.2.1).elem t=false):∀ p∈T,p.2.1≠t:=fun p hp e=>by
 have:t∈T.map fun p=>p.2.1:=List.mem_map.2 ⟨p,hp,e⟩
 rw [List.elem_eq_mem,decide_eq_false_iff_not] at h;exact h this
theorem mN {T:PT} {i:Nat} (h:(T.map fun p=>p.1).elem i=false):∀ p∈T,p.1≠i:=fun p hp e=>by
 have:i∈T.map fun p=>p.1:=List.mem_map.2 ⟨p,hp,e⟩
 rw [List.elem_eq_mem,decide_eq_false_iff_not] at h;exact h this
theorem eC.mono {o:Oper} {I1 I2:List (Nat×Value)→World→Prop} (hi:∀ L2 w2,I1 L2 w2→I2 L2 w2) (h:eC P n o I1 L' w'):eC P n o I2 L' w':=by
 rcases h with ⟨d,v,w2,h1,h2,h3⟩ | ⟨w2,h1,h2,h3⟩ | ⟨d,f,args,h1,h2,h3⟩
 ·exact .inl ⟨d,v,w2,h1,h2,hi _ _ h3⟩
 ·exact .inr (.inl ⟨w2,h1,h2,hi _ _ h3⟩)
 ·exact .inr (.inr ⟨d,f,args,h1,h2,Calls.mono h3 fun e w2 ⟨v,he,h⟩=>⟨v,he,hi _ _ h⟩⟩)
def dH (l:List Oper) (S:Nat→Bool):Prop:=∀ j o,l[j]? =some o→S j=true→∀ e∈o.after,Region.binds .any e=true→S e.on=true
theorem dg {j i:Nat} {o:Oper} (hC:dH l S) (ho:l[j]? =some o) (he:(o.after.toList.any fun e=>Region.binds .any e&&Nat.beq e.on i)=true) (hS:S i=false):S j=false:=by
 rcases hj:S j with _ | _
 ·rfl
 ·obtain ⟨e,h1,h2⟩:=List.any_eq_true.1 he;rw [Bool.and_eq_true] at h2;have:=hC j o ho hj e (by simpa using h1) h2.1;rw [Nat.eq_of_beq_eq_true h2.2,hS] at this;cases this
theorem ig {i:Nat} {o:Oper} (hC:dH l S) (ho:l[i]? =some o) (hE:∀ e∈o.after,Region.binds .any e=true→S e.on=true):dH l (bC S i):=fun j o' hj hs e he hb=>by
 have up:∀ k,S k=true→bC S i k=true:=fun k hk=>by
  unfold bC;split
  ·rfl
  ·exact hk
 by_cases hji:j=i
 ·subst hji;rw [ho] at hj;cases hj;exact up _ (hE e he hb)
 ·exact up _ (hC j o' hj (n8 hji hs) e he hb)
def iZ (P:Program) (n:Fr) (L:List (Nat×Value)) (T:PT) (Mu:List Nat) (Mem:(Nat→Bool)→World→Prop) (l:List Oper):Nat→List Oper→Prop
 |_,[]=>True
 |i,o::r=>(∀ S L' w',ik (T.map fun p=>(p.1,p.2.1))→fJ Mu T→(∀ S i w1 w2,Mu.elem i=false→ak w1 w2→Mem S w1→Mem (bC S i) w2)→ee L T S L' w'→Mem S w'→dH l S→S i=false→dE S o.after.toList→il P n L T Mem S i o L' w')∧iZ P n L T Mu Mem l (i+1) r
theorem fZ {L0:List (Nat×Value)} {l0:List Oper}:∀ {r:List Oper} {k:Nat},iZ P n L0 T Mu Mem l0 k r→ik (T.map fun p=>(p.1,p.2.1))→fJ Mu T→(∀ S i w1 w2,Mu.elem i=false→ak w1 w2→Mem S w1→Mem (bC S i) w2)→∀ (i:Nat) (o:Oper),r[i]? =some o→∀ S L' w',ee L0 T S L' w'→Mem S w'→dH l0 S→S (k+i)=false→dE S o.after.toList→il P n L0 T Mem S (k+i) o L' w'
 |[],_,_,_,_,_,i,o,h=>by simp at h
 |x::r,k,⟨h1,h2⟩,a,b,c,0,o,h=>by
  simp only [List.getElem?_cons_zero,Option.some.injEq] at h;subst h;exact fun S L' w'=>h1 S L' w' a b c
 |x::r,k,⟨h1,h2⟩,a,b,c,i+1,o,h=>by
  have:=fZ h2 a b c i o (by simpa using h)
  rwa [show k+1+i=k+(i+1) by omega] at this
theorem lF {id:Nat} (T:PT) (Mu:List Nat) (Mem:(Nat→Bool)→World→Prop) (hm:P.follows .mixedOrders=true) (hwf:iW l=true) (hlt:(T.all fun p=>Nat.blt p.1 l.length)=true) (hU:kV (T.map fun p=>(p.1,p.2.1))=true) (hmo:fJ Mu T) (hme:∀ S i w1 w2,Mu.elem i=false→ak w1 w2→Mem S w1→Mem (bC S i) w2) (h0:Mem (fun _=>false) { w with drawn:=w.drawn+1 })
 (hstep:iZ P n L T Mu Mem l 0 l) (hend:∀ w',Mem (fun i=>decide (i<l.length)) w'→lM (fun i=>decide (i<l.length)) w' T fun M=>Q .normal (mkA n (M++L)) w'):Cd P (.region id l.toArray true) Q n L w:=
 ma (fun S L' w'=>ee L T S L' w'∧Mem S w'∧dH l S) hm hwf ⟨⟨fun _ _=>rfl,fun _ _ h=>(by cases h),fun _ _ _=>rfl⟩,h0,fun _ _ _ h=>by cases h⟩ (fun i o S L' w' ho ⟨hI,hM,hC⟩ hS hE=>by
  have:=fZ hstep (jg hU) hmo hme i o ho S L' w' hI hM hC (by rw [Nat.zero_add];exact hS) (ia fun e he=>hE e (by simpa using he));rw [Nat.zero_add] at this;exact eC.mono (fun L2 w2 h=>⟨h.1,h.2,ig hC ho hE⟩) this) fun L' w' ⟨hI,hM,_⟩=>by
  have hlt':∀ p∈T,p.1<l.length:=fun p hp=>by
   have:=List.all_eq_true.1 hlt p hp;exact Nat.le_of_ble_eq_true this
  have h:=ju (aC L') T (fun p hp=>hI.2.1 p hp (decide_eq_true (hlt' p hp))) (hend w' hM)
  have e:mkA n L'=mkA n (T.map (fun p=>(p.2.1,aC L' p.2.1))++L):=by
   unfold mkA;rw [gf fun t _=>?_];rcases jG (aC L') T L t with ⟨_,h2⟩ | ⟨h1,h2⟩
   ·exact h2.symm
   ·rw [h2];exact hI.1 t h1
  rw [e];exact h
end
end Go.Proofs.Ytmbcbinocebodaa
namespace Go.Proofs.Ytmbcbinocebodaa
open Go.Proofs.Try (prog)
open Go.RowKit
open Go.ChangeShapes Go.WideShapes Go.ChangeAt
theorem dD:(bU prog 32).isSome=true:=by kernel_rfl
theorem iw:∀ (a0:ByteArray),prog.built 63 [(0,.string a0)]=some #[.string a0,.slice none 0 0,.slice none 0 0]:=by intros;kernel_rfl
theorem jX:aO prog 30=true:=by kernel_rfl
theorem eR:b8 prog 56=some 1:=by kernel_rfl
def mG (w:World) (f f2:Fl) (bs:List Nat):Prop:=f2.nm=f.nm∧f2.vs=f.vs++bs∧f2.ds=f.ds∧f2.dA=f.dA∧f2.dc=f.dc∧(∀ k,f2.B k→f.B k∨w.heap.size≤k)∧(f2.own=true→∀ k,f2.vA.map (·.block)=some k→(f.own=true∧f.vA.map (·.block)=some k)∨w.heap.size≤k)
def gM (w w':World) (g cp i:Nat) (fs:List Fl) (f:Fl) (bs:List Nat):Prop:=∃ f2:Fl,mG w f f2 bs∧Chg (fun k=>(some (⟨g,0,none⟩:Addr)).map (·.block)=some k∨(f.own=true∧f.vA.map (·.block)=some k)) w w'∧w'.ownsRow 0 63 3 (.slice (some ⟨g,0,none⟩) fs.length cp) fs.length ((fs.flatMap flV).set (i*3+1) (.slice f2.vA f2.vs.length f2.vc))∧cQ w' f2
theorem gM.from_ {w w1 w2:World} {g cp i:Nat} {fs:List Fl} {f:Fl} {bs:List Nat} (h:gM w w1 g cp i fs f bs) (hF:ak w1 w2):gM w w2 g cp i fs f bs:=by
 obtain ⟨f2,h1,h2,h3,h4⟩:=h;exact ⟨f2,h1,h2.next hF.toChg,h3.kept_from hF,h4.from_ hF⟩
def Fn (nm:ByteArray):Fl:=⟨nm,none,0,none,0,[],[],true⟩
theorem RB.chg0 {V:Nat→Prop} {w w':World} {A:Option Addr} {c:Nat} {l:List Nat} (h:RB w A c l) (hc:Chg V w w') (hV:0<l.length→∀ q,A.map (·.block)=some q→¬ V q):RB w' A c l:=
 ⟨h.le,h.mx,fun h0=>(h.chg hc (hV h0)).at_ h0,h.bt⟩
theorem RB.lt {w:World} {A:Option Addr} {c:Nat} {l:List Nat} (h:RB w A c l) (h0:0<l.length):∀ q,A.map (·.block)=some q→q<w.heap.size:=fun q hq=>by
 obtain ⟨b,o,rfl,hr⟩:=h.at_ h0;cases hq;have hv:(aT l)[0]? =some ((aT l)[0]'(by rw [aN];exact h0)):=List.getElem?_eq_getElem _;exact World.block_lt_of_cell? _ _ (hr 0 _ hv)
def dI (D:List Fe) (fu:Nat) (off:Bool) (nm:ByteArray) (n:Nat):Int:=if bE (okN nm) fu off≠0 then bE (okN nm) fu off else if 1048576<n+(cX D nm).length then 2 else if dZ D nm=false∧D.length=16 then 6 else 0
def ec (D:List Fe) (fu:Nat) (off:Bool) (nm:ByteArray) (bs:List Nat):List Fe:=if dI D fu off nm bs.length=0 then jE (if dZ D nm then D else eL D (nm,[],[])) nm (cX D nm++bs) else D
theorem lv {fs:List Fl} (h:fs.Pairwise Sep) (i:Nat) (nm:ByteArray):(fs.take i++Fn nm::fs.drop i).Pairwise Sep:=by
 have hs:∀ g:Fl,Sep g (Fn nm):=fun g=>⟨fun _ k _ hb=>(by rcases hb with e | e <;> cases e),fun _ k hk=>(by cases hk)⟩
 have h0:(fs.take i++fs.drop i).Pairwise Sep:=by rw [List.take_append_drop];exact h
 rw [List.pairwise_append] at h0 ⊢;refine ⟨h0.1,List.pairwise_cons.2 ⟨fun g _=>(hs g).symm,h0.2.1⟩,fun a ha b hb=>?_⟩;rcases List.mem_cons.1 hb with rfl | hb
 ·exact hs a
 ·exact h0.2.2 a ha b hb
theorem l8 {fs:List Fl} {i:Nat} (hi:i≤fs.length) (x:Fl):∃ h:i<(fs.take i++x::fs.drop i).length,(fs.take i++x::fs.drop i)[i]=x:=by
 have hl:(fs.take i).length=i:=by rw [List.length_take];omega
 have h:i<(fs.take i++x::fs.drop i).length:=by rw [List.length_append,List.length_cons,hl];omega
 refine ⟨h,?_⟩;rw [List.getElem_append_right (by omega)];simp only [hl,Nat.sub_self,List.getElem_cons_zero]
theorem DOk.ins {D:List Fe} (h:DOk D) {id:ByteArray} (hn:dZ D id=false) (hl:D.length≠16):DOk (eL D (id,[],[])):=by
 refine ⟨h.1.ins (fun e he h9=>by have:=eu.2 ⟨e,he,h9⟩;rw [hn] at this;cases this) [] [],by rw [kz];have:=h.2.1;omega,fun e he=>?_⟩;rcases ky.1 he with rfl | he
 ·exact ⟨Nat.zero_le _,Nat.zero_le _⟩
 ·exact h.2.2 e he
theorem eO (U:Nat→Prop) (d:Nat) (D:List Fe) (fu:Nat) (off:Bool) (w:World) (hd:dk w U d D fu off) (nm:ByteArray) (hn:nm.size≤140737488351232) (A2:Option Addr) (c2 m:Nat) (bs:List Nat) (hb:RB w A2 c2 bs) (hm:m=bs.length) (hbl:bs.length≤140737488355328) (hU2:0<bs.length→∀ q,A2.map (·.block)=some q→¬ U q) :
 Rt prog 10 [.pointer (some ⟨d,0,none⟩),.string nm,.slice A2 m c2] w (fun v w'=>v=.int .i64 (dI D fu off nm bs.length)∧dk w' (Nx U w w') d (ec D fu off nm bs) (fuB (okN nm) fu) (dX (okN nm) fu off)∧Chg U w w'):=by
 subst hm;have hd0:=hd;obtain ⟨fs,Ap,cp,ca,h,hD,hok,hfu0,hU⟩:=hd;subst hD;obtain ⟨hs,hl,hz⟩:=hok;rw [aF] at hl;refine enter (n:=80) Try.func10 rfl rfl rfl (ai (ag (asi rfl (ah (ae (ai (ai (ag (mvp rfl (mvg rfl (gz (v:=.string _) bW rfl rfl rfl ?_)))))))))));intro b13 w1 E13 hb13 hk13;have hF11:ak w _:=(ak.rfl_.next E13);refine aG fM (jL (h.from_ (ak.rfl_.next E13)) hs hl hfu0 hn hk13) ?_;rintro v14 w2 ⟨rfl,⟨ca2,h2⟩,hC11⟩;have hT:=(hF11.toChg (U:=U)).next (hC11.wide fun k hk=>.inl (by rw [hk];exact hU d (.inl rfl)));have hb2:=(hb.from_ hF11).chg0 hC11 (fun h0 q hq e=>hU2 h0 q hq (hU q (by rw [e];exact .inl rfl)));refine asi rfl (ah (ae (ai (ag (mvi rfl (aa (bD rfl rfl) (ah (ae (mz rfl (fun Q3=>?_) (fun Q3=>?_))))))))))
 ·refine ai (ag (mvi rfl (asi rfl (ah (ae (aA (az (a_ (v:=.int _ _) rfl rfl ?_))))))));have e1:dI (aH fs) fu off nm bs.length=bE (okN nm) fu off:=by unfold dI;rw [if_pos (by assumption)]
  rw [e1];refine ⟨rfl,?_,hT.next (ak.rfl_).toChg⟩;rw [show ec (aH fs) fu off nm bs=aH fs by unfold ec;rw [e1,if_neg (by first | decide | assumption)]];exact de hU (h2.from_ ak.rfl_) ⟨hs,by rw [aF];exact hl,hz⟩ (cY hfu0 _) fun k hk=>.inl hk
 refine aD (ae (ai (ag (mvp rfl (mvg rfl (aG ef (gE d fs Ap cp ca2 _ _ _ (h2.from_ ak.rfl_) hs hl (cY hfu0 _) nm) ?_))))));rintro v21 w4 ⟨⟨i,fd,rfl,hf⟩,E21⟩;refine mvt rfl (aa (aI rfl rfl) (aa (aI rfl rfl) (asi rfl (asb rfl (ah (ae (ai (ag (mvs rfl (aa (aX dD rfl) (asi rfl ?_)))))))))));refine ah (ae (iY (G:=Unit) [26,27,28,29,30,31,32,33,34,35,36,37,38] (fun _=>[(10,.int .i64 ((bs.length+(cX (aH fs) nm).length:Nat):Int))]) (fun _ w'=>w4=w') ?_ ?_))
 ·refine ai (ag (mvb rfl (ah (ae (aE rfl (fun Q5=>?_) (fun Q5=>?_))))))
  ·have hfd:fd=true:=by first | assumption | simp_all
   obtain ⟨hi,hi2⟩:=hf.2.1 hfd;have hia:i<(aH fs).length:=by rw [aF];exact hi
   have hk1:(aH fs)[i].1=nm:=by rw [aY];exact hi2
   have hzi:=hz _ (List.getElem_mem hia);rw [aY] at hzi;have hz1:fs[i].vs.length≤1048576:=hzi.1;have hgv:cX (aH fs) nm=fs[i].vs:=by rw [fj hs hia hk1,aY];rfl
   obtain ⟨g,rfl⟩:=eG h2.row (by omega);obtain ⟨bp,op,e9,hcd⟩:=(gU h2.row).2 (by omega);cases e9;have hce:=hcd i hi;refine ag (mvi rfl (mvp rfl (aa (aB rfl) (aa (aj aV rfl) (aa (ar bM rfl (by exact (h2.blk.from_ (ak.rfl_.next E21)).rd 0 rfl)) ?_)))));refine mvi rfl (aa (aJ aM rfl rfl (by omega)) (aa (aj eS rfl) (aa (aj cm rfl) ?_)));refine aa (ar a8 rfl (by have h9:=hce 1 _ rfl;simpa [Nat.add_assoc] using cg (ak.rfl_.next E21) h9)) ?_;refine aa (aX dD rfl) (aa (aW rfl rfl (by omega)) (asi rfl (ah ?_)));refine bo (()) ⟨(by rw [hgv];rfl),trivial⟩ (by (iterate 14 refine aR rfl ?_);exact aZ) ?_;rfl
  have hfd:fd=false:=by first | assumption | simp_all
  have hno:dZ (aH fs) nm=false:=by rw [hf.has hs,hfd]
  have hno2:∀ e∈aH fs,e.1≠nm:=fun e he h9=>by have:=eu.2 ⟨e,he,h9⟩;rw [hno] at this;cases this
  have hgv:cX (aH fs) nm=[]:=jq hno2;have hile:i≤fs.length:=by have:=hf.1.le;rwa [aF] at this
  refine aD ?_;refine bo (()) ⟨(by rw [hgv];rfl),trivial⟩ (by (iterate 1 refine aR rfl ?_);exact aZ) ?_;rfl
 rintro _ ρ6 w6 rfl;refine ai (ai (ag (mvi rfl (aa (bh rfl rfl) (ah (ae (mC rfl (fun Q7=>?_) (fun Q7=>?_))))))))
 ·refine ai (ag (asi rfl (ah (ae (aA (az (a_ (v:=.int _ _) rfl rfl ?_)))))));have e1:dI (aH fs) fu off nm bs.length=2:=by unfold dI;rw [if_neg (by omega),if_pos (by omega)]
  rw [e1];refine ⟨rfl,?_,hT.next ((ak.rfl_.next E21)).toChg⟩;rw [show ec (aH fs) fu off nm bs=aH fs by unfold ec;rw [e1,if_neg (by first | decide | assumption)]];exact de hU (h2.from_ (ak.rfl_.next E21)) ⟨hs,by rw [aF];exact hl,hz⟩ (cY hfu0 _) fun k hk=>.inl hk
 refine aD (ae (iY (G:=List Fl×Option Addr×Nat) [6,41,42,43,44,45,46,47,48,49,50,51,52,53,54,55,56,57,58,59,60] (fun _=>[]) (fun (fs3,Ap3,cp3) w'=>DkH w' d fs3 Ap3 cp3 ca2 (fuB (okN nm) fu) (dX (okN nm) fu off)∧aH fs3=(if dZ (aH fs) nm then aH fs else eL (aH fs) (nm,[],[]))∧DOk (aH fs3)∧(∃ hi3:i<fs3.length,fs3[i].nm=nm∧fs3[i].vs=cX (aH fs) nm)∧(∀ k,eE d Ap3 fs3 k→eE d Ap fs k∨w.heap.size≤k)∧(dZ (aH fs) nm=false→(aH fs).length≠16)∧RB w' A2 c2 bs∧Chg U w w') ?_ ?_))
 ·refine ai (ag (mvb rfl (aa (fx rfl) (ah (ae (mA rfl (fun Q8=>?_) (fun Q8=>?_)))))))
  ·have hfd:fd=false:=by first | assumption | simp_all
   have hno:dZ (aH fs) nm=false:=by rw [hf.has hs,hfd]
   have hno2:∀ e∈aH fs,e.1≠nm:=fun e he h9=>by have:=eu.2 ⟨e,he,h9⟩;rw [hno] at this;cases this
   have hgv:cX (aH fs) nm=[]:=jq hno2;have hile:i≤fs.length:=by have:=hf.1.le;rwa [aF] at this
   refine ai (ai (ag (mvp rfl (aa (aB rfl) (aa (aj aV rfl) (aa (ar bM rfl (by exact (h2.blk.from_ (ak.rfl_.next E21)).rd 0 rfl)) ?_))))));refine aa (aX c6 rfl) (aa (bO rfl rfl) (ah (ae (mC rfl (fun Q9=>?_) (fun Q9=>?_)))))
   ·refine ai (ag (asi rfl (ah (ae (aA (az (az (a_ (v:=.int _ _) rfl rfl ?_))))))));have e1:dI (aH fs) fu off nm bs.length=6:=by unfold dI;rw [if_neg (by omega),if_neg (by omega),if_pos ⟨hno,by rw [aF];omega⟩]
    rw [e1];refine ⟨rfl,?_,hT.next ((ak.rfl_.next E21)).toChg⟩;rw [show ec (aH fs) fu off nm bs=aH fs by unfold ec;rw [e1,if_neg (by first | decide | assumption)]];exact de hU (h2.from_ (ak.rfl_.next E21)) ⟨hs,by rw [aF];exact hl,hz⟩ (cY hfu0 _) fun k hk=>.inl hk
   refine aD (ae (ag (mvp rfl (mvp rfl (aa (aB rfl) (aa (aj aV rfl) (aa (ar bM rfl (by exact (h2.blk.from_ (ak.rfl_.next E21)).rd 0 rfl)) ?_)))))));refine mvi rfl (mvg rfl (aa (cM (l:=[(0,.tmp 55)]) (iw _)) ?_));have hF58b:ak _ w4:=(ak.rfl_.next E21);refine gA (l:=[(0,.tmp 56)]) (cells:=#[.string nm,.slice none 0 0,.slice none 0 0]) cd rfl rfl (by kernel_rfl) ?_;intro b57 w10 E57 hb57 hk57;have hF58:ak _ w10:=((ak.rfl_.next E21).next E57);refine aG jX (iS 0 Ap cp fs.length i 1 b57 0 1 (fs.flatMap flV) (flV (Fn nm)) _ _ _ (h2.row.kept_from hF58) (Nat.zero_le _) hile (by decide) rfl hk57.whole hk57 (fun k hk e=>by have:=(c9 (h2.row.kept_from hF58b) k hk).2;omega) (lB _) (ez _) (by omega)) ?_;rintro v58 w11 ⟨⟨A58,c58,rfl,ho58,hA58⟩,hg58⟩;have hb58:=(h2.blk.from_ hF58).grown hg58 (b_ (h2.row.kept_from hF58) (h2.blk.from_ hF58) (by decide));rw [mw] at ho58;refine aa (aB rfl) (aa (aj aV rfl) (dR (v:=.slice _ _ _) eR rfl rfl rfl (hb58) (by show 0<4;decide) ?_));intro w12 O13 P13;refine ah ?_;refine bo ((fs.take i++Fn nm::fs.drop i,A58,c58)) trivial (by (iterate 20 refine aR rfl ?_);exact aZ) ?_;obtain ⟨hi9,hx9⟩:=l8 hile (Fn nm);have hC9:Chg (fun k=>k=d∨Ap.map (·.block)=some k) _ w12:=(hF58.toChg.next (Chg.of_grown hg58 fun k e=>.inr e)).next (O13.toChg (.inl rfl));have hr:=eH ho58 O13 (b_ ho58 hb58 (by decide));rw [←lz hile (Fn nm)] at hr
   have hk:=h2.setR (ca':=ca2) (fu':=fuB (okN nm) fu) (off':=dX (okN nm) fu off) hC9 (by rw [lz hile];exact P13) hr (fun f hf9=>by
    rcases List.mem_append.1 hf9 with h9 | h9
    ·exact .inl (List.mem_of_mem_take h9)
    ·rcases List.mem_cons.1 h9 with rfl | h9
     ·exact .inr (.inr ⟨rfl,rfl,rfl,rfl,rfl,rfl,rfl⟩)
     ·exact .inl (List.mem_of_mem_drop h9)) (lv h2.ap i nm)
   have hab:aH (fs.take i++Fn nm::fs.drop i)=eL (aH fs) (nm,[],[]):=by rw [kQ,hf.1.ins];rfl
   have hne16:(aH fs).length≠16:=by rw [aF];omega
   refine ⟨hk,by rw [hab,hno];rfl,by rw [hab];exact DOk.ins ⟨hs,by rw [aF];exact hl,hz⟩ hno hne16,⟨hi9,by rw [hx9];rfl,by rw [hx9,hgv];rfl⟩,fun k hk=>?_,fun _=>hne16,?_,hT.next (hC9.wide fun k hk=>.inl (hU k (hk.elim .inl fun e=>.inr (.inl e))))⟩
   ·rcases hk with e | e | ⟨f3,h3,e⟩
    ·exact .inl (.inl e)
    ·exact (hA58 k e).imp (fun e=>.inr (.inl e)) fun e=>Nat.le_trans (Nat.le_trans hT.size hF58.size) e
    ·rcases List.mem_append.1 h3 with h9 | h9
     ·exact .inl (.inr (.inr ⟨f3,List.mem_of_mem_take h9,e⟩))
     ·rcases List.mem_cons.1 h9 with rfl | h9
      ·rcases e with e | e <;> cases e
      ·exact .inl (.inr (.inr ⟨f3,List.mem_of_mem_drop h9,e⟩))
   ·exact hb2.chg0 hC9 fun h0 q hq e=>hU2 h0 q hq (hU q (e.elim .inl fun e=>.inr (.inl e)))
  have hfd:fd=true:=by first | assumption | simp_all
  obtain ⟨hi,hi2⟩:=hf.2.1 hfd;have hia:i<(aH fs).length:=by rw [aF];exact hi
  have hk1:(aH fs)[i].1=nm:=by rw [aY];exact hi2
  have hzi:=hz _ (List.getElem_mem hia);rw [aY] at hzi;have hz1:fs[i].vs.length≤1048576:=hzi.1;have hgv:cX (aH fs) nm=fs[i].vs:=by rw [fj hs hia hk1,aY];rfl
  refine aD ?_;refine bo ((fs,Ap,cp)) trivial (by (iterate 2 refine aR rfl ?_);exact aZ) ?_;exact ⟨h2.from_ (ak.rfl_.next E21),by rw [hf.has hs,hfd];rfl,⟨hs,by rw [aF];exact hl,hz⟩,⟨hi,hi2,hgv.symm⟩,fun k hk=>.inl hk,fun h9=>(by rw [hf.has hs,hfd] at h9;cases h9),hb2.from_ (ak.rfl_.next E21),hT.next ((ak.rfl_.next E21)).toChg⟩
 rintro ⟨fs3,Ap3,cp3⟩ ρ13 w13 ⟨h3,hab3,hok3,⟨hi3,hn3,hv3⟩,hft3,hcap3,hb3,hT3⟩;obtain ⟨g,rfl⟩:=eG h3.row (by omega);obtain ⟨bp3,op3,e93,hcd3⟩:=(gU h3.row).2 (by omega);cases e93;have hce3:=hcd3 i hi3;have hfi3:=h3.ok _ (List.getElem_mem hi3);have hg3:=(c9 h3.row g rfl).2;have hia3:i<(aH fs3).length:=by rw [aF];exact hi3
 have hk13:(aH fs3)[i].1=nm:=by rw [aY];exact hn3
 have hl3:fs3.length≤16:=by rw [←aF];exact hok3.2.1
 refine ai ?_;apply lF [(0,61,fun _ v _=>v=_),(1,62,fun _ v _=>v=_),(2,63,fun _ v _=>v=_),(3,64,fun _ v _=>v=_),(4,65,fun _ v _=>v=_),(5,66,fun _ v _=>v=_),(6,67,fun _ v _=>v=_),(7,68,fun _ v _=>v=_),(8,69,fun _ v _=>v=_),(9,70,fun _ v _=>v=_),(10,71,fun _ v _=>v=_),(11,72,fun _ v _=>v=_),(12,73,fun _ v _=>v=_),(13,74,fun _ v _=>v=_),(14,75,fun _ v _=>v=_),(15,76,fun S v w'=>∃ f2:Fl,v=.slice f2.vA f2.vs.length f2.vc∧mG w13 fs3[i] f2 bs∧(S 19=false→cQ w' f2)),(16,77,fun _ v _=>v=_),(17,78,fun _ v _=>v=_),(18,79,fun _ v _=>v=_)] [15,19] (fun S w'=>w13.heap.size≤w'.heap.size∧(S 15=false→ak w13 w')∧(S 19=false→Chg (fun k=>fs3[i].own=true∧fs3[i].vA.map (·.block)=some k) w13 w')∧(S 19=true→gM w13 w' g cp3 i fs3 fs3[i] bs)) (by kernel_rfl) (by kernel_rfl) rfl rfl ⟨fun _ _ _ _ _ _ _ h=>h,fun _ _ _ _ _ _ _ h=>h,fun _ _ _ _ _ _ _ h=>h,fun _ _ _ _ _ _ _ h=>h,fun _ _ _ _ _ _ _ h=>h,fun _ _ _ _ _ _ _ h=>h,fun _ _ _ _ _ _ _ h=>h,fun _ _ _ _ _ _ _ h=>h,fun _ _ _ _ _ _ _ h=>h,fun _ _ _ _ _ _ _ h=>h,fun _ _ _ _ _ _ _ h=>h,fun _ _ _ _ _ _ _ h=>h,fun _ _ _ _ _ _ _ h=>h,fun _ _ _ _ _ _ _ h=>h,fun _ _ _ _ _ _ _ h=>h,fun S i v w1 w2 hq hF ⟨f2,h1,h2,h3⟩=>⟨f2,h1,h2,fun h0=>(h3 (j9 h0)).from_ hF⟩,fun _ _ _ _ _ _ _ h=>h,fun _ _ _ _ _ _ _ h=>h,fun _ _ _ _ _ _ _ h=>h,trivial⟩ (fun S i w1 w2 hq hF h=>⟨Nat.le_trans h.1 hF.size,fun h0=>(h.2.1 (j9 h0)).next hF,fun h0=>(h.2.2.1 (j9 h0)).next hF.toChg,fun h1=>(h.2.2.2 (n8 (show 19≠i by rintro rfl;exact absurd hq (by decide)) h1)).from_ hF⟩) (⟨Nat.le_refl _,fun _=>ak.rfl_.d1,fun _=>ak.rfl_.d1.toChg,fun h1=>by cases h1⟩)
 case hstep=>
  constructor
  ·rintro S L' w14 hU hmo hme hI hM hC hS ⟨-⟩;have hM':=hM;obtain ⟨hz14,hA14,hB14,hD14⟩:=hM';have e0:=hI.1 0 (kj rfl);exact a6 [(0,_)] hU hmo hme hI hM (.head _) rfl rfl (by kernel_rfl) ⟨e0,trivial⟩ (av (v:=.pointer _) rfl) ak.rfl_ rfl
  constructor
  ·rintro S L' w15 hU hmo hme hI hM hC hS ⟨d0,-⟩;have hM':=hM;obtain ⟨hz15,hA15,hB15,hD15⟩:=hM';obtain ⟨v15_61,e61,h61⟩:=hI.get (i:=0) (.head _) d0;obtain rfl:=h61;exact a6 [(61,_)] hU hmo hme hI hM (.tail _ (.head _)) rfl rfl (by kernel_rfl) ⟨e61,trivial⟩ (aB rfl) ak.rfl_ rfl
  constructor
  ·rintro S L' w16 hU hmo hme hI hM hC hS ⟨d1,-⟩;have hM':=hM;obtain ⟨hz16,hA16,hB16,hD16⟩:=hM';obtain ⟨v16_62,e62,h62⟩:=hI.get (i:=1) (.tail _ (.head _)) d1;obtain rfl:=h62;exact a6 [(62,_)] hU hmo hme hI hM (.tail _ (.tail _ (.head _))) rfl rfl (by kernel_rfl) ⟨e62,trivial⟩ (aj aV rfl) ak.rfl_ rfl
  constructor
  ·rintro S L' w17 hU hmo hme hI hM hC hS ⟨d2,-⟩;have hM':=hM;obtain ⟨hz17,hA17,hB17,hD17⟩:=hM';obtain ⟨v17_63,e63,h63⟩:=hI.get (i:=2) (.tail _ (.tail _ (.head _))) d2;obtain rfl:=h63;exact a6 [(63,_)] hU hmo hme hI hM (.tail _ (.tail _ (.tail _ (.head _)))) rfl rfl (by kernel_rfl) ⟨e63,trivial⟩ (ar bM rfl ((h3.blk.chg (hB17 (dg hC (j:=19) rfl (by kernel_rfl) hS)) (fun e=>h3.bd (List.getElem_mem hi3) (.inl e.2) rfl)).rd 0 rfl)) (ak.rfl_) (rfl)
  constructor
  ·rintro S L' w18 hU hmo hme hI hM hC hS ⟨-⟩;have hM':=hM;obtain ⟨hz18,hA18,hB18,hD18⟩:=hM';have e8:=hI.1 8 (kj rfl);exact a6 [(8,_)] hU hmo hme hI hM (.tail _ (.tail _ (.tail _ (.tail _ (.head _))))) rfl rfl (by kernel_rfl) ⟨e8,trivial⟩ (av (v:=.int _ _) rfl) ak.rfl_ rfl
  constructor
  ·rintro S L' w19 hU hmo hme hI hM hC hS ⟨-⟩;have hM':=hM;obtain ⟨hz19,hA19,hB19,hD19⟩:=hM';have e0:=hI.1 0 (kj rfl);exact a6 [(0,_)] hU hmo hme hI hM (.tail _ (.tail _ (.tail _ (.tail _ (.tail _ (.head _)))))) rfl rfl (by kernel_rfl) ⟨e0,trivial⟩ (av (v:=.pointer _) rfl) ak.rfl_ rfl
  constructor
  ·rintro S L' w20 hU hmo hme hI hM hC hS ⟨d5,-⟩;have hM':=hM;obtain ⟨hz20,hA20,hB20,hD20⟩:=hM';obtain ⟨v20_66,e66,h66⟩:=hI.get (i:=5) (.tail _ (.tail _ (.tail _ (.tail _ (.tail _ (.head _)))))) d5;obtain rfl:=h66;exact a6 [(66,_)] hU hmo hme hI hM (.tail _ (.tail _ (.tail _ (.tail _ (.tail _ (.tail _ (.head _))))))) rfl rfl (by kernel_rfl) ⟨e66,trivial⟩ (aB rfl) ak.rfl_ rfl
  constructor
  ·rintro S L' w21 hU hmo hme hI hM hC hS ⟨d6,-⟩;have hM':=hM;obtain ⟨hz21,hA21,hB21,hD21⟩:=hM';obtain ⟨v21_67,e67,h67⟩:=hI.get (i:=6) (.tail _ (.tail _ (.tail _ (.tail _ (.tail _ (.tail _ (.head _))))))) d6;obtain rfl:=h67;exact a6 [(67,_)] hU hmo hme hI hM (.tail _ (.tail _ (.tail _ (.tail _ (.tail _ (.tail _ (.tail _ (.head _)))))))) rfl rfl (by kernel_rfl) ⟨e67,trivial⟩ (aj aV rfl) ak.rfl_ rfl
  constructor
  ·rintro S L' w22 hU hmo hme hI hM hC hS ⟨d7,-⟩;have hM':=hM;obtain ⟨hz22,hA22,hB22,hD22⟩:=hM';obtain ⟨v22_68,e68,h68⟩:=hI.get (i:=7) (.tail _ (.tail _ (.tail _ (.tail _ (.tail _ (.tail _ (.tail _ (.head _)))))))) d7;obtain rfl:=h68;exact a6 [(68,_)] hU hmo hme hI hM (.tail _ (.tail _ (.tail _ (.tail _ (.tail _ (.tail _ (.tail _ (.tail _ (.head _))))))))) rfl rfl (by kernel_rfl) ⟨e68,trivial⟩ (ar bM rfl ((h3.blk.chg (hB22 (dg hC (j:=19) rfl (by kernel_rfl) hS)) (fun e=>h3.bd (List.getElem_mem hi3) (.inl e.2) rfl)).rd 0 rfl)) (ak.rfl_) (rfl)
  constructor
  ·rintro S L' w23 hU hmo hme hI hM hC hS ⟨-⟩;have hM':=hM;obtain ⟨hz23,hA23,hB23,hD23⟩:=hM';have e8:=hI.1 8 (kj rfl);exact a6 [(8,_)] hU hmo hme hI hM (.tail _ (.tail _ (.tail _ (.tail _ (.tail _ (.tail _ (.tail _ (.tail _ (.tail _ (.head _)))))))))) rfl rfl (by kernel_rfl) ⟨e8,trivial⟩ (av (v:=.int _ _) rfl) ak.rfl_ rfl
  constructor
  ·rintro S L' w24 hU hmo hme hI hM hC hS ⟨d8,d9,-⟩;have hM':=hM;obtain ⟨hz24,hA24,hB24,hD24⟩:=hM';obtain ⟨v24_69,e69,h69⟩:=hI.get (i:=8) (.tail _ (.tail _ (.tail _ (.tail _ (.tail _ (.tail _ (.tail _ (.tail _ (.head _))))))))) d8;obtain rfl:=h69;obtain ⟨v24_70,e70,h70⟩:=hI.get (i:=9) (.tail _ (.tail _ (.tail _ (.tail _ (.tail _ (.tail _ (.tail _ (.tail _ (.tail _ (.head _)))))))))) d9;obtain rfl:=h70;exact a6 [(69,_),(70,_)] hU hmo hme hI hM (.tail _ (.tail _ (.tail _ (.tail _ (.tail _ (.tail _ (.tail _ (.tail _ (.tail _ (.tail _ (.head _))))))))))) rfl rfl (by kernel_rfl) ⟨e69,e70,trivial⟩ (aJ aM rfl rfl (by omega)) ak.rfl_ rfl
  constructor
  ·rintro S L' w25 hU hmo hme hI hM hC hS ⟨d10,-⟩;have hM':=hM;obtain ⟨hz25,hA25,hB25,hD25⟩:=hM';obtain ⟨v25_71,e71,h71⟩:=hI.get (i:=10) (.tail _ (.tail _ (.tail _ (.tail _ (.tail _ (.tail _ (.tail _ (.tail _ (.tail _ (.tail _ (.head _))))))))))) d10;obtain rfl:=h71;exact a6 [(71,_)] hU hmo hme hI hM (.tail _ (.tail _ (.tail _ (.tail _ (.tail _ (.tail _ (.tail _ (.tail _ (.tail _ (.tail _ (.tail _ (.head _)))))))))))) rfl rfl (by kernel_rfl) ⟨e71,trivial⟩ (aj eS rfl) ak.rfl_ rfl
  constructor
  ·rintro S L' w26 hU hmo hme hI hM hC hS ⟨d11,-⟩;have hM':=hM;obtain ⟨hz26,hA26,hB26,hD26⟩:=hM';obtain ⟨v26_72,e72,h72⟩:=hI.get (i:=11) (.tail _ (.tail _ (.tail _ (.tail _ (.tail _ (.tail _ (.tail _ (.tail _ (.tail _ (.tail _ (.tail _ (.head _)))))))))))) d11;obtain rfl:=h72;exact a6 [(72,_)] hU hmo hme hI hM (.tail _ (.tail _ (.tail _ (.tail _ (.tail _ (.tail _ (.tail _ (.tail _ (.tail _ (.tail _ (.tail _ (.tail _ (.head _))))))))))))) rfl rfl (by kernel_rfl) ⟨e72,trivial⟩ (aj cm rfl) ak.rfl_ rfl
  constructor
  ·rintro S L' w27 hU hmo hme hI hM hC hS ⟨d12,-⟩;have hM':=hM;obtain ⟨hz27,hA27,hB27,hD27⟩:=hM';obtain ⟨v27_73,e73,h73⟩:=hI.get (i:=12) (.tail _ (.tail _ (.tail _ (.tail _ (.tail _ (.tail _ (.tail _ (.tail _ (.tail _ (.tail _ (.tail _ (.tail _ (.head _))))))))))))) d12;obtain rfl:=h73;exact a6 [(73,_)] hU hmo hme hI hM (.tail _ (.tail _ (.tail _ (.tail _ (.tail _ (.tail _ (.tail _ (.tail _ (.tail _ (.tail _ (.tail _ (.tail _ (.tail _ (.head _)))))))))))))) rfl rfl (by kernel_rfl) ⟨e73,trivial⟩ (ar (v:=.slice fs3[i].vA fs3[i].vs.length fs3[i].vc) a8 rfl (by have h9:=cg (hA27 (dg hC (j:=15) rfl (by kernel_rfl) hS)) (hce3 1 _ rfl);simpa [Nat.add_assoc] using h9)) (ak.rfl_) (rfl)
  constructor
  ·rintro S L' w28 hU hmo hme hI hM hC hS ⟨-⟩;have hM':=hM;obtain ⟨hz28,hA28,hB28,hD28⟩:=hM';have e2:=hI.1 2 (kj rfl);exact a6 [(2,_)] hU hmo hme hI hM (.tail _ (.tail _ (.tail _ (.tail _ (.tail _ (.tail _ (.tail _ (.tail _ (.tail _ (.tail _ (.tail _ (.tail _ (.tail _ (.tail _ (.head _))))))))))))))) rfl rfl (by kernel_rfl) ⟨e2,trivial⟩ (av (v:=.slice _ _ _) rfl) ak.rfl_ rfl
  constructor
  ·rintro S L' w29 hU hmo hme hI hM hC hS ⟨d13,d14,-⟩;have hM':=hM;obtain ⟨hz29,hA29,hB29,hD29⟩:=hM';obtain ⟨v29_74,e74,h74⟩:=hI.get (i:=13) (.tail _ (.tail _ (.tail _ (.tail _ (.tail _ (.tail _ (.tail _ (.tail _ (.tail _ (.tail _ (.tail _ (.tail _ (.tail _ (.head _)))))))))))))) d13;obtain rfl:=h74;obtain ⟨v29_75,e75,h75⟩:=hI.get (i:=14) (.tail _ (.tail _ (.tail _ (.tail _ (.tail _ (.tail _ (.tail _ (.tail _ (.tail _ (.tail _ (.tail _ (.tail _ (.tail _ (.tail _ (.head _))))))))))))))) d14;obtain rfl:=h75;have hF9:=hA29 hS;have hs9:=hF9.size;obtain ⟨f2,w2,hR,h1,h2,h3,h4,h5,h6,h7,h8,h9⟩:=jN (ρ:=ev 80 [(74,_),(75,_)]) (s:=.tmp 74) (x:=.tmp 75) (f:=fs3[i]) (A2:=A2) (c2:=c2) (bs:=bs) (hfi3.from_ hF9) rfl rfl (hb3.from_ hF9) (by rw [hv3];omega);exact j4 [(74,_),(75,_)] hU hI (.tail _ (.tail _ (.tail _ (.tail _ (.tail _ (.tail _ (.tail _ (.tail _ (.tail _ (.tail _ (.tail _ (.tail _ (.tail _ (.tail _ (.tail _ (.head _)))))))))))))))) rfl (by kernel_rfl) ⟨e74,e75,trivial⟩ hR ⟨Nat.le_trans hz29 h6.size,fun h0=>(by rw [k5] at h0;cases h0),fun _=>hF9.toChg.next h6,fun h0=>(by rw [mo (by decide),dg hC (j:=19) rfl (by kernel_rfl) hS] at h0;cases h0)⟩ ⟨f2,rfl,⟨h1,h2,h3,h4,h5,fun k hk=>(h8 k hk).imp (fun e=>e) fun e=>Nat.le_trans hs9 e,fun ho k hk=>(h9 ho k hk).imp (fun e=>e) fun e=>Nat.le_trans hs9 e⟩,fun _=>h7⟩ ⟨fun _ _ _ h=>h,fun _ _ _ h=>h,fun _ _ _ h=>h,fun _ _ _ h=>h,fun _ _ _ h=>h,fun _ _ _ h=>h,fun _ _ _ h=>h,fun _ _ _ h=>h,fun _ _ _ h=>h,fun _ _ _ h=>h,fun _ _ _ h=>h,fun _ _ _ h=>h,fun _ _ _ h=>h,fun _ _ _ h=>h,fun _ _ _ h=>h,(fun h=>by cases h),fun _ _ _ h=>h,fun _ _ _ h=>h,fun _ _ _ h=>h,trivial⟩
  constructor
  ·rintro S L' w30 hU hmo hme hI hM hC hS ⟨d3,d4,d0,d1,d2,d3,d4,d5,d6,d7,d8,d9,d10,d11,d12,d13,d14,d15,-⟩;have hM':=hM;obtain ⟨hz30,hA30,hB30,hD30⟩:=hM';obtain ⟨v30_64,e64,h64⟩:=hI.get (i:=3) (.tail _ (.tail _ (.tail _ (.head _)))) d3;obtain rfl:=h64;obtain ⟨v30_65,e65,h65⟩:=hI.get (i:=4) (.tail _ (.tail _ (.tail _ (.tail _ (.head _))))) d4;obtain rfl:=h65;exact a6 [(64,_),(65,_)] hU hmo hme hI hM (.tail _ (.tail _ (.tail _ (.tail _ (.tail _ (.tail _ (.tail _ (.tail _ (.tail _ (.tail _ (.tail _ (.tail _ (.tail _ (.tail _ (.tail _ (.tail _ (.head _))))))))))))))))) rfl rfl (by kernel_rfl) ⟨e64,e65,trivial⟩ (aJ aM rfl rfl (by omega)) ak.rfl_ rfl
  constructor
  ·rintro S L' w31 hU hmo hme hI hM hC hS ⟨d16,d0,d1,d2,d3,d4,d5,d6,d7,d8,d9,d10,d11,d12,d13,d14,d15,-⟩;have hM':=hM;obtain ⟨hz31,hA31,hB31,hD31⟩:=hM';obtain ⟨v31_77,e77,h77⟩:=hI.get (i:=16) (.tail _ (.tail _ (.tail _ (.tail _ (.tail _ (.tail _ (.tail _ (.tail _ (.tail _ (.tail _ (.tail _ (.tail _ (.tail _ (.tail _ (.tail _ (.tail _ (.head _))))))))))))))))) d16;obtain rfl:=h77;exact a6 [(77,_)] hU hmo hme hI hM (.tail _ (.tail _ (.tail _ (.tail _ (.tail _ (.tail _ (.tail _ (.tail _ (.tail _ (.tail _ (.tail _ (.tail _ (.tail _ (.tail _ (.tail _ (.tail _ (.tail _ (.head _)))))))))))))))))) rfl rfl (by kernel_rfl) ⟨e77,trivial⟩ (aj eS rfl) ak.rfl_ rfl
  constructor
  ·rintro S L' w32 hU hmo hme hI hM hC hS ⟨d17,d0,d1,d2,d3,d4,d5,d6,d7,d8,d9,d10,d11,d12,d13,d14,d15,-⟩;have hM':=hM;obtain ⟨hz32,hA32,hB32,hD32⟩:=hM';obtain ⟨v32_78,e78,h78⟩:=hI.get (i:=17) (.tail _ (.tail _ (.tail _ (.tail _ (.tail _ (.tail _ (.tail _ (.tail _ (.tail _ (.tail _ (.tail _ (.tail _ (.tail _ (.tail _ (.tail _ (.tail _ (.tail _ (.head _)))))))))))))))))) d17;obtain rfl:=h78;exact a6 [(78,_)] hU hmo hme hI hM (.tail _ (.tail _ (.tail _ (.tail _ (.tail _ (.tail _ (.tail _ (.tail _ (.tail _ (.tail _ (.tail _ (.tail _ (.tail _ (.tail _ (.tail _ (.tail _ (.tail _ (.tail _ (.head _))))))))))))))))))) rfl rfl (by kernel_rfl) ⟨e78,trivial⟩ (aj cm rfl) ak.rfl_ rfl
  constructor
  ·rintro S L' w33 hU hmo hme hI hM hC hS ⟨d18,d15,d15,d0,d1,d2,d3,d4,d5,d6,d7,d8,d9,d10,d11,d12,d13,d14,d15,-⟩;have hM':=hM;obtain ⟨hz33,hA33,hB33,hD33⟩:=hM';obtain ⟨v33_76,e76,h76⟩:=hI.get (i:=15) (.tail _ (.tail _ (.tail _ (.tail _ (.tail _ (.tail _ (.tail _ (.tail _ (.tail _ (.tail _ (.tail _ (.tail _ (.tail _ (.tail _ (.tail _ (.head _)))))))))))))))) d15;obtain ⟨f2,rfl,hq2,hq3⟩:=h76;obtain ⟨v33_79,e79,h79⟩:=hI.get (i:=18) (.tail _ (.tail _ (.tail _ (.tail _ (.tail _ (.tail _ (.tail _ (.tail _ (.tail _ (.tail _ (.tail _ (.tail _ (.tail _ (.tail _ (.tail _ (.tail _ (.tail _ (.tail _ (.head _))))))))))))))))))) d18;obtain rfl:=h79;have hCh:=hB33 hS;have s15:S 15=true:=d15;have hrow:=ep h3.row hCh (fun q hq e=>h3.bp (List.getElem_mem hi3) (.inl e.2) hq);have hco:=hrow.cellAt (i*3+1) (by omega);have hlF:=ey db fs3;rw [List.getElem?_eq_getElem (by omega)] at hco;have hO:=bI.setCell w33 g (i*3+1) (.slice f2.vA f2.vs.length f2.vc);have hg9:g<w33.heap.size:=Nat.lt_of_lt_of_le hg3 hz33
   have hfo:cQ _ f2:=(hq3 hS).chg (hO.toChg (U:=fun k=>k=g) rfl) fun q hq e=>by
    rcases hq2.2.2.2.2.2.1 q hq with e2 | e2
    ·exact h3.bp (List.getElem_mem hi3) e2 (by rw [e];rfl)
    ·omega
   exact j3 [(76,_),(79,_)] hI (mN rfl) rfl (by kernel_rfl) ⟨e76,e79,trivial⟩ (ft (v:=.slice f2.vA f2.vs.length f2.vc) fK (by show Value.pointer (some ⟨g,0+i*3+1+0,none⟩)=Value.pointer (some ⟨g,i*3+1,none⟩);rw [Nat.zero_add]) rfl rfl hco (hrow.frozenAt _)) ⟨Nat.le_trans hz33 (Nat.le_of_eq hO.size.symm),fun h0=>(by rw [mo (by decide),s15] at h0;cases h0),fun h0=>(by rw [k5] at h0;cases h0),fun _=>⟨f2,hq2,(hCh.wide fun k hk=>.inl (.inr hk)).next (hO.toChg (.inl rfl)),(hrow.stored _ _).1,hfo⟩⟩ ⟨fun _ _ _ h=>h,fun _ _ _ h=>h,fun _ _ _ h=>h,fun _ _ _ h=>h,fun _ _ _ h=>h,fun _ _ _ h=>h,fun _ _ _ h=>h,fun _ _ _ h=>h,fun _ _ _ h=>h,fun _ _ _ h=>h,fun _ _ _ h=>h,fun _ _ _ h=>h,fun _ _ _ h=>h,fun _ _ _ h=>h,fun _ _ _ h=>h,fun _ _ _ ⟨f3,h1,h2,h3⟩=>⟨f3,h1,h2,fun h0=>(by rw [k5] at h0;cases h0)⟩,fun _ _ _ h=>h,fun _ _ _ h=>h,fun _ _ _ h=>h,trivial⟩
  exact trivial
 case hend=>
  intro w34 hM;obtain ⟨hz34,hA34,hB34,hD34⟩:=hM;rintro v34_61 rfl v34_62 rfl v34_63 rfl v34_64 rfl v34_65 rfl v34_66 rfl v34_67 rfl v34_68 rfl v34_69 rfl v34_70 rfl v34_71 rfl v34_72 rfl v34_73 rfl v34_74 rfl v34_75 rfl v34_76 ⟨f2,rfl,hq2,hq3⟩ v34_77 rfl v34_78 rfl v34_79 rfl;refine kP ?_;obtain ⟨f3,⟨hq1,hq2v,hq3d,hq4,hq5,hq7,hq8⟩,hCC,hP,hfo⟩:=hD34 rfl;refine ae (ai (ag (asi rfl (ah (ae (aA (a_ (v:=.int _ _) rfl rfl ?_)))))));rw [gT db fs3 i 1 hi3 (by decide) f3 (.slice f3.vA f3.vs.length f3.vc) (by unfold flV;rw [hq1,hq3d,hq4,hq5];rfl)] at hP;have hk:=(h3.put hi3 (f':=f3) hCC hP hfo hq7 hq8).from_ ak.rfl_;have hCC:=hCC.next (ak.rfl_).toChg;have hs3:=hok3.1;have hz3:=hok3.2.2 _ (List.getElem_mem hia3);rw [aY] at hz3
  have hD:aH (fs3.set i f3)=jE (aH fs3) nm (cX (aH fs) nm++bs):=by
   rw [eB,lg hs3 hia3 hk13,aY];unfold Fl.abs;rw [hq1,hq2v,hq3d,hn3,hv3]
  have e1:dI (aH fs) fu off nm bs.length=0:=by
   unfold dI;rw [if_neg (by omega),if_neg (by omega),if_neg (fun h9=>hcap3 h9.1 h9.2)]
  rw [e1];have hvl:f3.vs.length≤1048576:=by rw [hq2v,hv3,List.length_append];omega
  have hT4:Chg U w w34:=hT3.trans hCC fun k hk=>by
   rcases hk with e | e
   ·exact (hft3 k (.inr (.inl e))).imp (hU k) fun e=>e
   ·exact (hft3 k (.inr (.inr ⟨_,List.getElem_mem hi3,.inl e.2⟩))).imp (hU k) fun e=>e
  refine ⟨rfl,?_,hT4⟩;rw [show ec (aH fs) fu off nm bs=aH (fs3.set i f3) by unfold ec;rw [e1,if_pos rfl,hD,hab3]];refine de hU hk (DOk.set hok3 hs3 hi3 f3 hq1 hvl (by rw [hq3d];exact hz3.2)) (cY hfu0 _) fun k hk=>?_
  have hsz:=hT3.size;rcases hk with e | e | ⟨f3,h4,e⟩
  ·exact hft3 k (.inl e)
  ·exact hft3 k (.inr (.inl e))
  ·rcases List.mem_or_eq_of_mem_set h4 with h4 | h4
   ·exact hft3 k (.inr (.inr ⟨f3,h4,e⟩))
   ·rw [h4] at e;rcases hq7 k e with e2 | e2
    ·exact hft3 k (.inr (.inr ⟨_,List.getElem_mem hi3,e2⟩))
    ·exact .inr (Nat.le_trans hsz e2)
def mM (D:List Fe) (fu:Nat) (off:Bool) (a b:ByteArray):Int:=opE D (okN a&&okN b) fu off a
def mY (D:List Fe) (fu:Nat) (off:Bool) (a b:ByteArray):List Fe:=if mM D fu off a b=0 then (if a=b then D else eL (l_ (l_ D a) b) (b,cX D a,mP D a)) else D
theorem gX {P:Program} {ρ:Operand→Value} {w:World} {t:TypeId} {x:Operand} {e by_:Nat} {z v z0 z1 z2 u0 u1 u2:Value} (hq:cF P t=some (e,3,by_,z)) (hz:z.cells=#[z0,z1,z2]) (hx:ρ x=v) (hv:v.cells=#[u0,u1,u2]):RO P ρ (.buildSlice t 1 #[(0,x)]) w (.slice (some ⟨w.heap.size,0,none⟩) 1 1) (w.alloc (.cells #[u0,u1,u2] e)):=by
 refine iD (l:=[(0,x)]) (cells:=#[u0,u1,u2]) hq rfl rfl ?_
 have e1:(Array.range (1*3)).map (z.cells[·%z.cells.size]!)=#[z0,z1,z2]:=by
  rw [hz,show Array.range (1*3)=#[0,1,2] from rfl];simp
 rw [e1];simp [Instr.fill,hx,hv]
section
variable {w w':World} {d:Nat} {fs:List Fl} {Ap Ap':Option Addr} {cp cp':Nat} {ca:Int} {fu:Nat} {off:Bool}
theorem DkH.ins (h:DkH w d fs Ap cp ca fu off) {i:Nat} {f':Fl} (c:Chg (fun k=>k=d∨Ap.map (·.block)=some k) w w') (hb:Blk w' d 58 #[.slice Ap' (fs.length+1) cp',.int .i64 ca,.int .i64 (fu:Nat),.bool off]) (hi:i≤fs.length)
 (hr:w'.ownsRow 0 63 3 (.slice Ap' (fs.length+1) cp') (fs.length+1) ((fs.take i++f'::fs.drop i).flatMap flV)) (hf:cQ w' f') (hs:∀ g∈fs,Sep g f'):DkH w' d (fs.take i++f'::fs.drop i) Ap' cp' ca fu off:=by
 refine ⟨by rw [lz hi];exact hb,by rw [lz hi];exact hr,fun g hg=>?_,?_⟩
 ·rcases List.mem_append.1 hg with hg | hg
  ·have hm:=List.mem_of_mem_take hg;exact (h.ok g hm).chg c fun k hk e=>e.elim (h.bd hm hk) (h.bp hm hk)
  ·rcases List.mem_cons.1 hg with rfl | hg
   ·exact hf
   ·have hm:=List.mem_of_mem_drop hg;exact (h.ok g hm).chg c fun k hk e=>e.elim (h.bd hm hk) (h.bp hm hk)
 ·have h0:(fs.take i++fs.drop i).Pairwise Sep:=by rw [List.take_append_drop];exact h.ap
  rw [List.pairwise_append] at h0 ⊢;refine ⟨h0.1,List.pairwise_cons.2 ⟨fun g hg=>(hs g (List.mem_of_mem_drop hg)).symm,h0.2.1⟩,fun a ha b hb=>?_⟩;rcases List.mem_cons.1 hb with rfl | hb
  ·exact hs a (List.mem_of_mem_take ha)
  ·exact h0.2.2 a ha b hb
end
end Go.Proofs.Ytmbcbinocebodaa
namespace Go.Proofs.Ytmbcbinocebodaa
open Go.Proofs.Try (prog)
open Go.RowKit
open Go.ChangeShapes Go.WideShapes Go.ChangeAt
theorem cx:(bU prog 22).isSome=true:=by kernel_rfl
theorem jb:prog.built 58 []=some #[.slice none 0 0,.int .i64 0,.int .i64 0,.bool false]:=by kernel_rfl
theorem dF:bU prog 22=some (53,2):=by kernel_rfl
theorem jT:dJ prog 53=some true:=by kernel_rfl
theorem gx:b8 prog 53=some 2:=by kernel_rfl
theorem jS:gN prog 53=some (.agg #[.string ⟨#[]⟩,.slice none 0 0]):=by kernel_rfl
theorem bc:bT prog 53 0=some 0:=by kernel_rfl
theorem bX:bT prog 53 1=some 1:=by kernel_rfl
theorem dO:∀ (a0:Option Addr) (a1 a2:Nat) (a3:Option Addr) (a4 a5:Nat),prog.built 61 [(0,.slice a0 a1 a2),(1,.slice a3 a4 a5)]=some #[.slice a0 a1 a2,.slice a3 a4 a5]:=by intros;kernel_rfl
section
variable {ops:Array Oper} {n:Fr} {L:List (Nat×Value)} {dst:Option Nat} {ty:TypeId} {pos:String} {after:Array Edge}
theorem jo {P:Program} {s x:Operand} {t:TypeId} {w:World} {post:Value→World→Prop} {base:Nat} {A A2:Option Addr} {m j cap c2 e size by_:Nat} {z:Value} {xs news:List Value} (hq:cF P t=some (e,size,by_,z)) (hzs:z.cells.size=size) (hs0:0<size)
 (hs:ev n L s=.slice A m cap) (hown:w.ownsRow base e size (.slice A m cap) m xs) (hB:base≤w.heap.size)
 (hx:ev n L x=.slice A2 j c2) (hl:news.length=j*size) (hsrc:∃ b o,A2=some ⟨b,o,none⟩∧w.rangeAt b o news) (h1:∀ u∈news,u.oneCell'=true) (h63:m+j≤9223372036854775807) (hby:(m+j)*by_≤140737488355328)
 (k:∀ A' cap' w',w'.ownsRow base e size (.slice A' (m+j) cap') (m+j) (xs++news)→w.grownBy w' (A.map (·.block))→(A'.map (·.block)=A.map (·.block)∨A'.map (·.block)=some w.heap.size)→post (.slice A' (m+j) cap') w') :
 i_ P ops n L ⟨dst,.call { callee:=.builtin .append,args:=#[s,x],argTypes:=#[t,t] },ty,pos,after,none⟩ w post:=by
 obtain ⟨A',cap',w',hr,ho,hg,hl⟩:=fw (P:=P) (ρ:=ev n L) hq hzs hs0 hs hown hB hx hl hsrc h1 h63 hby;exact mq hr (k A' cap' w' ho hg hl)
end
structure Af where
 nm:ByteArray
 A:Option Addr
 c:Nat
 bs:List Nat
def afV (f:Af):List Value:=[.string f.nm,.slice f.A f.bs.length f.c]
theorem oe (f:Af):(afV f).length=2:=rfl
theorem mK (f:Af):∀ u∈afV f,u.oneCell'=true:=by simp [afV,Value.oneCell']
def afE (f:Af):Fe:=(f.nm,f.bs,f.bs)
def jf (w:World) (f:Af):Prop:=RB w f.A f.c f.bs∧f.nm.size≤140737488351232∧f.bs.length≤140737488355328
def okJ (fs:List Af) (j:Nat):Prop:=∀ h:j<fs.length,okN fs[j].nm=true∧fs[j].bs.length≤1048576∧(0<j→sLt (fs[j-1]'(by omega)).nm fs[j].nm)
def mr (fs:List Af):Prop:=fs.length≤16∧∀ j,okJ fs j
theorem l6 {fs:List Af} (h:∀ j,okJ fs j):KS (fs.map afE):=by
 unfold KS;rw [List.pairwise_map,List.pairwise_iff_getElem];intro i j hi hj hij
 induction j with
 |zero=>omega
 |succ j ih=>
  have h1:=(h (j+1) hj).2.2 (Nat.zero_lt_succ _);rcases Nat.eq_or_lt_of_le (Nat.le_of_lt_succ hij) with e | e
  ·subst e;exact h1
  ·exact dB (ih (by omega) e) h1
theorem l5 {a b:ByteArray} (h:¬ sLt a b):(!(Op.bytesLess a.toList b.toList))=true:=by
 rcases hb:Op.bytesLess a.toList b.toList with _ | _
 ·rfl
 ·exact absurd ((jk _ _).1 hb) h
theorem kU {a b:ByteArray} (h:sLt a b):(!(Op.bytesLess a.toList b.toList))=false:=by rw [(jk _ _).2 h];rfl
theorem oC (A:Option Addr) (c n:Nat) (fs:List Af) (w:World) (hr:di 2 afV w A fs) (hn:n=fs.length) (hall:∀ f∈fs,jf w f) :
 Rt prog 8 [.slice A n c] w (fun v w'=>((¬ mr fs∧v=.tuple #[.pointer none,.int .i64 1])∨(mr fs∧∃ d,v=.tuple #[.pointer (some ⟨d,0,none⟩),.int .i64 0]∧dk w' (fun k=>w.heap.size≤k) d (fs.map afE) 0 false))∧ak w w'):=by
 subst hn;refine enter (n:=66) Try.func8 rfl rfl rfl (ai (ag (asp rfl (asi rfl (ah (ae (ai (ai (ag (mvs rfl (aa (aX cx rfl) (aa (bh rfl rfl) (ah (ae ?_))))))))))))));refine mC rfl (fun Q1=>?_) (fun Q1=>?_)
 ·refine ai (ag (asp rfl (asi rfl (ah (ae (aA (az (dU (v:=.pointer _) (v':=.int _ _) rfl rfl rfl ?_))))))));exact ⟨.inl ⟨fun h=>by have:=h.1;omega,rfl⟩,ak.rfl_⟩
 refine aD (ae (ai (ag (aa (cM (l:=[]) (jb)) (gB (v:=.agg _) rfl ?_)))));intro b12 w2 E12 hb12 hk12;have hg12:w.heap.size≤b12:=by rw [hb12];exact (ak.rfl_).size
 refine asp rfl (ah (ae (ai (ai (ag (mvs rfl (aa (aX cx rfl) (mvi rfl (ah (ae (a7 (cJ (G:=Nat×List Fl×Option Addr×Nat) [2,3,5,6,7,16,17,18,19,20,21,22,23,24,25,26,27,28,29,30,31,32,33,34,35,36,37,38,39,40,41,42,43,44,45,46,47,48,49,50,51,52,53,54,55,56,57,58,59,60,61,62,63,64] (fun (i,_)=>[(15,.int .i64 (i:Nat))]) (fun (i,gs,Ap,cp) w'=>i≤fs.length∧gs.length=i∧(∀ j,j<i→okJ fs j)∧aH gs=(fs.take i).map afE∧DkH w' b12 gs Ap cp 0 0 false∧(∀ k,eE b12 Ap gs k→w.heap.size≤k)∧ak w w') (fun (i,_)=>fs.length-i) ((0,[],none,0)) ⟨rfl,trivial⟩ ?_ ?_))))))))))))
 ·exact ⟨Nat.zero_le _,rfl,fun j h=>absurd h (Nat.not_lt_zero _),rfl,⟨hk12,World.ownsRow_nil _ _ _ _,fun f hf=>(by cases hf),List.Pairwise.nil⟩,fun k hk=>(by rcases hk with e | e | ⟨f,hf,_⟩;omega;cases e;cases hf),(ak.rfl_.next E12)⟩
 rintro ⟨i,gs,Ap,cp⟩ ρ3 w3 ⟨hi,hgl,hoj,hga,hD,hft,hB⟩;refine ai (ag (aa (bG rfl rfl) (ah (ae (ai (mC rfl (fun Q4=>?_) (fun Q4=>?_)))))))
 ·have hil:i<fs.length:=by omega
  obtain ⟨bd,od,rfl,hcd⟩:=hr (by omega);have hce:=hcd i hil;have hn16:fs.length≤16:=by omega
  refine aD (ae (ai (a7 (ai (ag (mvi rfl (aa (aJ dF rfl rfl (by omega)) (aa (el (cs:=[_,_]) jT gx rfl (by exact dW hB hce)) ?_))))))));refine j7 jS ?_;intro b6 w5 E6 hb6 hk6;have hg6:w.heap.size≤b6:=by rw [hb6];exact (hB).size
  refine asi rfl (kX (vs:=[_,_]) gx rfl rfl (by simp [Value.oneCell']) (hk6) rfl ?_);intro w6 O6 P6;have F6:ak _ w6:=E6.only O6 (by rw [hb6];exact Nat.le_refl _);have h6:=hD.from_ F6;have hz6:=F6.size;obtain ⟨z6,hz6e⟩:∃ z6,z6=(w6).heap.size:=⟨_,rfl⟩;refine ah (ae (ai (ai ?_)))
  have hsp:okN fs[i].nm=false∨(okN fs[i].nm=true∧1048576<fs[i].bs.length)∨(okN fs[i].nm=true∧fs[i].bs.length≤1048576∧i=0)∨(okN fs[i].nm=true∧fs[i].bs.length≤1048576∧0<i∧¬ sLt fs[i-1].nm fs[i].nm)∨(okN fs[i].nm=true∧fs[i].bs.length≤1048576∧0<i∧sLt fs[i-1].nm fs[i].nm):=by
   rcases hb:okN fs[i].nm with _ | _
   ·exact .inl rfl
   ·by_cases h1:1048576<fs[i].bs.length
    ·exact .inr (.inl ⟨rfl,h1⟩)
    ·by_cases h2:i=0
     ·exact .inr (.inr (.inl ⟨rfl,by omega,h2⟩))
     ·by_cases h3:sLt fs[i-1].nm fs[i].nm
      ·exact .inr (.inr (.inr (.inr ⟨rfl,by omega,by omega,h3⟩)))
      ·exact .inr (.inr (.inr (.inl ⟨rfl,by omega,by omega,h3⟩)))
  rcases hsp with hokn | ⟨hokn,hlen⟩ | ⟨hokn,hlen,hi0⟩ | ⟨hokn,hlen,hi0,hns⟩ | ⟨hokn,hlen,hi0,hsl⟩
  ·have hbad:¬ okJ fs i:=fun h=>by have:=(h hil).1;rw [hokn] at this;cases this
   apply bZ 26 [(20,eqp _),(21,eqp (.string fs[i].nm)),(22,fun v w'=>∃ q,v=.slice (some ⟨q,0,none⟩) 1 1∧Blk w' q 9 #[.string fs[i].nm]),(23,eqp _),(24,eqp _),(25,eqp _),(26,eqp _),(27,eqp _),(28,eqp _),(29,eqp _),(30,eqp _),(31,eqp _),(32,eqp _),(33,eqp _),(34,eqp _),(35,eqp _),(36,eqp _),(37,eqp _),(38,eqp _),(39,eqp _),(40,eqp _),(41,eqp _),(42,eqp _),(43,eqp _),(44,eqp _),(45,eqp _)] (by repeat first | exact ck | refine cj ?_ | refine bS ?_) (by kernel_rfl) (by kernel_rfl) ⟨af _,af _,(fun _ _ _ hF ⟨q,h1,h2⟩=>⟨q,h1,h2.from_ hF⟩),af _,af _,af _,af _,af _,af _,af _,af _,af _,af _,af _,af _,af _,af _,af _,af _,af _,af _,af _,af _,af _,af _,af _,trivial⟩
   case hop=>
    constructor
    ·rintro-w8 D8;exact al (aj bc rfl) rfl
    constructor
    ·rintro-w9 D9;rintro _ rfl;exact al (ar bl rfl (by exact (P6.from_ (ak.rfl_.next D9)).rd 0 rfl)) rfl
    constructor
    ·rintro-w10 D10;rintro v10_21 rfl;exact du (en (v:=.string fs[i].nm) bW rfl rfl rfl) (ak.rfl_.new _) ⟨_,rfl,Blk.new _ _ _⟩
    constructor
    ·rintro-w11 D11;rintro v11_22 ⟨q22,rfl,hq22⟩;refine er cw ((cL (some ⟨q22,0,none⟩) 1 1 [fs[i].nm] _ (eU hq22) rfl (by omega) (fun s hs=>by rw [List.mem_singleton.1 hs];exact (hall _ (List.getElem_mem hil)).2.1)).mono ?_);rintro v _ ⟨rfl,E11'⟩;exact ⟨E11',rfl⟩
    constructor
    ·rintro-w12 D12;rintro _ rfl;exact al (fv (fx rfl) (by simp [hokn])) rfl
    constructor
    ·rintro-w13 D13;rintro _ rfl;exact al (av (v:=.bool _) rfl) rfl
    constructor
    ·rintro-w14 D14;rintro _ rfl;exact br rfl rfl rfl
    constructor
    ·rintro-w15 D15;rintro _ rfl _ rfl;exact br rfl rfl rfl
    constructor
    ·rintro-w16 D16;rintro _ rfl _ rfl;exact br rfl rfl rfl
    constructor
    ·rintro-w17 D17;rintro _ rfl _ rfl;exact br rfl rfl rfl
    constructor
    ·rintro-w18 D18;rintro _ rfl _ rfl;exact al (ax (v:=.bool _) rfl rfl) rfl
    constructor
    ·rintro-w19 D19;rintro _ rfl;exact al (av (v:=.bool _) rfl) rfl
    constructor
    ·rintro-w20 D20;rintro _ rfl;exact br rfl rfl rfl
    constructor
    ·rintro-w21 D21;rintro _ rfl _ rfl;exact br rfl rfl rfl
    constructor
    ·rintro-w22 D22;rintro _ rfl _ rfl;exact br rfl rfl rfl
    constructor
    ·rintro-w23 D23;rintro _ rfl;exact bn rfl rfl
    constructor
    ·rintro-w24 D24;rintro _ rfl;exact bn rfl rfl
    constructor
    ·rintro-w25 D25;rintro _ rfl _ rfl;exact bn rfl rfl
    constructor
    ·rintro-w26 D26;rintro _ rfl _ rfl _ rfl;exact bn rfl rfl
    constructor
    ·rintro-w27 D27;rintro _ rfl _ rfl;exact bn rfl rfl
    constructor
    ·rintro-w28 D28;rintro _ rfl _ rfl;exact bn rfl rfl
    constructor
    ·rintro-w29 D29;rintro _ rfl;exact bn rfl rfl
    constructor
    ·rintro-w30 D30;rintro _ rfl _ rfl;exact bn rfl rfl
    constructor
    ·rintro-w31 D31;rintro _ rfl _ rfl _ rfl;exact bn rfl rfl
    constructor
    ·rintro-w32 D32;rintro _ rfl _ rfl _ rfl;exact br rfl rfl rfl
    constructor
    ·rintro-w33 D33;rintro _ rfl _ rfl;exact al (ax (v:=.bool _) rfl rfl) rfl
    exact trivial
   case hend=>
    intro w34 D34;rintro _ rfl v21 rfl v22 ⟨q22,rfl,hq22⟩ _ rfl _ rfl _ rfl _ rfl _ rfl _ rfl _ rfl _ rfl _ rfl _ rfl _ rfl _ rfl _ rfl _ rfl _ rfl _ rfl _ rfl _ rfl _ rfl _ rfl _ rfl _ rfl _ rfl;show St ..;refine ah (ae (cP rfl (ai (ag (asp rfl (asi rfl (ah (ae (aA (az (aU (az (az (aU (az (dU (v:=.pointer _) (v':=.int _ _) rfl rfl rfl (⟨.inl ⟨fun h=>hbad (h.2 i),rfl⟩,(((hB.next E6).only O6 (hg6)).next D34)⟩)))))))))))))))))
  ·have hbad:¬ okJ fs i:=fun h=>by have:=(h hil).2.1;omega
   apply bZ 26 [(20,eqp _),(21,eqp (.string fs[i].nm)),(22,fun v w'=>∃ q,v=.slice (some ⟨q,0,none⟩) 1 1∧Blk w' q 9 #[.string fs[i].nm]),(23,eqp _),(24,eqp _),(25,eqp _),(26,eqp _),(27,eqp (.slice fs[i].A fs[i].bs.length fs[i].c)),(28,eqp _),(29,eqp _),(30,eqp _),(31,eqp _),(32,eqp _),(33,eqp _),(34,eqp _),(35,eqp _),(36,eqp _),(37,eqp _),(38,eqp _),(39,eqp _),(40,eqp _),(41,eqp _),(42,eqp _),(43,eqp _),(44,eqp _),(45,eqp _)] (by repeat first | exact ck | refine cj ?_ | refine bS ?_) (by kernel_rfl) (by kernel_rfl) ⟨af _,af _,(fun _ _ _ hF ⟨q,h1,h2⟩=>⟨q,h1,h2.from_ hF⟩),af _,af _,af _,af _,af _,af _,af _,af _,af _,af _,af _,af _,af _,af _,af _,af _,af _,af _,af _,af _,af _,af _,af _,trivial⟩
   case hop=>
    constructor
    ·rintro-w36 D36;exact al (aj bc rfl) rfl
    constructor
    ·rintro-w37 D37;rintro _ rfl;exact al (ar bl rfl (by exact (P6.from_ (ak.rfl_.next D37)).rd 0 rfl)) rfl
    constructor
    ·rintro-w38 D38;rintro v38_21 rfl;exact du (en (v:=.string fs[i].nm) bW rfl rfl rfl) (ak.rfl_.new _) ⟨_,rfl,Blk.new _ _ _⟩
    constructor
    ·rintro-w39 D39;rintro v39_22 ⟨q22,rfl,hq22⟩;refine er cw ((cL (some ⟨q22,0,none⟩) 1 1 [fs[i].nm] _ (eU hq22) rfl (by omega) (fun s hs=>by rw [List.mem_singleton.1 hs];exact (hall _ (List.getElem_mem hil)).2.1)).mono ?_);rintro v _ ⟨rfl,E39'⟩;exact ⟨E39',rfl⟩
    constructor
    ·rintro-w40 D40;rintro _ rfl;exact al (cG (fx rfl) (by simp [hokn])) rfl
    constructor
    ·rintro-w41 D41;rintro _ rfl;exact al (av (v:=.bool _) rfl) rfl
    constructor
    ·rintro-w42 D42;rintro _ rfl;exact ay rfl (aj bX rfl) rfl
    constructor
    ·rintro-w43 D43;rintro _ rfl _ rfl;exact ay rfl (ar (v:=.slice fs[i].A fs[i].bs.length fs[i].c) a8 rfl ((P6.from_ (ak.rfl_.next D43)).rd 1 rfl)) rfl
    constructor
    ·rintro-w44 D44;rintro _ rfl v44_27 rfl;exact ay rfl (aX dD rfl) rfl
    constructor
    ·rintro-w45 D45;rintro _ rfl _ rfl;exact ay rfl (fv (bh rfl rfl) (decide_eq_true (by omega))) rfl
    constructor
    ·rintro-w46 D46;rintro _ rfl _ rfl;exact al (aq (v:=.bool _) rfl rfl) rfl
    constructor
    ·rintro-w47 D47;rintro _ rfl;exact al (av (v:=.bool _) rfl) rfl
    constructor
    ·rintro-w48 D48;rintro _ rfl;exact br rfl rfl rfl
    constructor
    ·rintro-w49 D49;rintro _ rfl _ rfl;exact br rfl rfl rfl
    constructor
    ·rintro-w50 D50;rintro _ rfl _ rfl;exact br rfl rfl rfl
    constructor
    ·rintro-w51 D51;rintro _ rfl;exact bn rfl rfl
    constructor
    ·rintro-w52 D52;rintro _ rfl;exact bn rfl rfl
    constructor
    ·rintro-w53 D53;rintro _ rfl _ rfl;exact bn rfl rfl
    constructor
    ·rintro-w54 D54;rintro _ rfl _ rfl _ rfl;exact bn rfl rfl
    constructor
    ·rintro-w55 D55;rintro _ rfl _ rfl;exact bn rfl rfl
    constructor
    ·rintro-w56 D56;rintro _ rfl _ rfl;exact bn rfl rfl
    constructor
    ·rintro-w57 D57;rintro _ rfl;exact bn rfl rfl
    constructor
    ·rintro-w58 D58;rintro _ rfl _ rfl;exact bn rfl rfl
    constructor
    ·rintro-w59 D59;rintro _ rfl _ rfl _ rfl;exact bn rfl rfl
    constructor
    ·rintro-w60 D60;rintro _ rfl _ rfl _ rfl;exact br rfl rfl rfl
    constructor
    ·rintro-w61 D61;rintro _ rfl _ rfl;exact al (ax (v:=.bool _) rfl rfl) rfl
    exact trivial
   case hend=>
    intro w62 D62;rintro _ rfl v21 rfl v22 ⟨q22,rfl,hq22⟩ _ rfl _ rfl _ rfl _ rfl v27 rfl _ rfl _ rfl _ rfl _ rfl _ rfl _ rfl _ rfl _ rfl _ rfl _ rfl _ rfl _ rfl _ rfl _ rfl _ rfl _ rfl _ rfl _ rfl;show St ..;refine ah (ae (cP rfl (ai (ag (asp rfl (asi rfl (ah (ae (aA (az (aU (az (az (aU (az (dU (v:=.pointer _) (v':=.int _ _) rfl rfl rfl (⟨.inl ⟨fun h=>hbad (h.2 i),rfl⟩,(((hB.next E6).only O6 (hg6)).next D62)⟩)))))))))))))))))
  ·have hord:0<i→sLt (fs[i-1]'(by omega)).nm fs[i].nm:=fun h=>by omega
   apply bZ 26 [(20,eqp _),(21,eqp (.string fs[i].nm)),(22,fun v w'=>∃ q,v=.slice (some ⟨q,0,none⟩) 1 1∧Blk w' q 9 #[.string fs[i].nm]),(23,eqp _),(24,eqp _),(25,eqp _),(26,eqp _),(27,eqp (.slice fs[i].A fs[i].bs.length fs[i].c)),(28,eqp _),(29,eqp _),(30,eqp _),(31,eqp _),(32,eqp _),(33,eqp _),(34,eqp _),(35,eqp _),(36,eqp _),(37,eqp _),(38,eqp _),(39,eqp _),(40,eqp _),(41,eqp _),(42,eqp _),(43,eqp _),(44,eqp _),(45,eqp _)] (by repeat first | exact ck | refine cj ?_ | refine bS ?_) (by kernel_rfl) (by kernel_rfl) ⟨af _,af _,(fun _ _ _ hF ⟨q,h1,h2⟩=>⟨q,h1,h2.from_ hF⟩),af _,af _,af _,af _,af _,af _,af _,af _,af _,af _,af _,af _,af _,af _,af _,af _,af _,af _,af _,af _,af _,af _,af _,trivial⟩
   case hop=>
    constructor
    ·rintro-w64 D64;exact al (aj bc rfl) rfl
    constructor
    ·rintro-w65 D65;rintro _ rfl;exact al (ar bl rfl (by exact (P6.from_ (ak.rfl_.next D65)).rd 0 rfl)) rfl
    constructor
    ·rintro-w66 D66;rintro v66_21 rfl;exact du (en (v:=.string fs[i].nm) bW rfl rfl rfl) (ak.rfl_.new _) ⟨_,rfl,Blk.new _ _ _⟩
    constructor
    ·rintro-w67 D67;rintro v67_22 ⟨q22,rfl,hq22⟩;refine er cw ((cL (some ⟨q22,0,none⟩) 1 1 [fs[i].nm] _ (eU hq22) rfl (by omega) (fun s hs=>by rw [List.mem_singleton.1 hs];exact (hall _ (List.getElem_mem hil)).2.1)).mono ?_);rintro v _ ⟨rfl,E67'⟩;exact ⟨E67',rfl⟩
    constructor
    ·rintro-w68 D68;rintro _ rfl;exact al (cG (fx rfl) (by simp [hokn])) rfl
    constructor
    ·rintro-w69 D69;rintro _ rfl;exact al (av (v:=.bool _) rfl) rfl
    constructor
    ·rintro-w70 D70;rintro _ rfl;exact ay rfl (aj bX rfl) rfl
    constructor
    ·rintro-w71 D71;rintro _ rfl _ rfl;exact ay rfl (ar (v:=.slice fs[i].A fs[i].bs.length fs[i].c) a8 rfl ((P6.from_ (ak.rfl_.next D71)).rd 1 rfl)) rfl
    constructor
    ·rintro-w72 D72;rintro _ rfl v72_27 rfl;exact ay rfl (aX dD rfl) rfl
    constructor
    ·rintro-w73 D73;rintro _ rfl _ rfl;exact ay rfl (cG (bh rfl rfl) (decide_eq_false (by omega))) rfl
    constructor
    ·rintro-w74 D74;rintro _ rfl _ rfl;exact al (aq (v:=.bool _) rfl rfl) rfl
    constructor
    ·rintro-w75 D75;rintro _ rfl;exact al (av (v:=.bool _) rfl) rfl
    constructor
    ·rintro-w76 D76;rintro _ rfl;exact ay rfl (av (v:=.int _ _) rfl) rfl
    constructor
    ·rintro-w77 D77;rintro _ rfl _ rfl;exact ay rfl (cG (bh rfl rfl) (decide_eq_false (by omega))) rfl
    constructor
    ·rintro-w78 D78;rintro _ rfl _ rfl;exact ay rfl (av (v:=.bool _) rfl) rfl
    constructor
    ·rintro-w79 D79;rintro _ rfl;exact br rfl rfl rfl
    constructor
    ·rintro-w80 D80;rintro _ rfl;exact br rfl rfl rfl
    constructor
    ·rintro-w81 D81;rintro _ rfl _ rfl;exact br rfl rfl rfl
    constructor
    ·rintro-w82 D82;rintro _ rfl _ rfl _ rfl;exact br rfl rfl rfl
    constructor
    ·rintro-w83 D83;rintro _ rfl _ rfl;exact br rfl rfl rfl
    constructor
    ·rintro-w84 D84;rintro _ rfl _ rfl;exact br rfl rfl rfl
    constructor
    ·rintro-w85 D85;rintro _ rfl;exact br rfl rfl rfl
    constructor
    ·rintro-w86 D86;rintro _ rfl _ rfl;exact br rfl rfl rfl
    constructor
    ·rintro-w87 D87;rintro _ rfl _ rfl _ rfl;exact br rfl rfl rfl
    constructor
    ·rintro-w88 D88;rintro _ rfl _ rfl _ rfl;exact ay rfl (aq (v:=.bool _) rfl rfl) rfl
    constructor
    ·rintro-w89 D89;rintro _ rfl _ rfl;exact al (aq (v:=.bool _) rfl rfl) rfl
    exact trivial
   case hend=>
    intro w90 D90;rintro _ rfl v21 rfl v22 ⟨q22,rfl,hq22⟩ _ rfl _ rfl _ rfl _ rfl v27 rfl _ rfl _ rfl _ rfl _ rfl _ rfl _ rfl _ rfl _ rfl _ rfl _ rfl _ rfl _ rfl _ rfl _ rfl _ rfl _ rfl _ rfl _ rfl;show St ..;refine ah (ae (bA rfl (aD (ae (ai (ag (aa (aj bX rfl) (aa (ar a8 rfl (by exact (P6.from_ (ak.rfl_.next D90)).rd 1 rfl)) ?_))))))));have hM48:ak _ w90:=(ak.rfl_.next D90);refine aG eh (aP fs[i].A fs[i].c fs[i].bs.length fs[i].bs _ ((hall _ (List.getElem_mem hil)).1.from_ (((hB.next E6).only O6 (hg6)).next D90)) rfl (by omega)) ?_;rintro v48 w91 ⟨⟨A48,c48,rfl,ho48⟩,E48⟩;have h10:=h6.from_ (((ak.rfl_.next D90).next E48));have hB10:ak w w91:=((((hB.next E6).only O6 (hg6)).next D90).next E48);have P10a:=P6.from_ (((ak.rfl_.next D90).next E48));obtain ⟨f2,hf2⟩:∃ f2:Fl,f2=⟨fs[i].nm,A48,c48,A48,c48,fs[i].bs,fs[i].bs,true⟩:=⟨_,rfl⟩;have hz10:=(((((hB.next E6).only O6 (hg6)).next D90).next E48)).size;have hB48:∀ k,f2.B k→z6≤k:=by rw [hf2,hz6e];exact fun k hk=>hk.elim (fun e=>Nat.le_trans hM48.size (c9 ho48 k e).1) fun e=>Nat.le_trans hM48.size (c9 ho48 k e).1
    have hf10:cQ w91 f2:=by rw [hf2];exact ⟨(RB.own ho48 (hall _ (List.getElem_mem hil)).1.bt).2,(RB.own ho48 (hall _ (List.getElem_mem hil)).1.bt).2,TyB.own ho48,TyB.own ho48,fun _=>⟨iM ho48 (Nat.zero_le _),.inr ⟨rfl,[],(List.append_nil _).symm⟩⟩,fun h=>by cases h⟩
    refine ass rfl (ah (ae ?_));apply kK 13 12 [60] [(49,eqp _),(50,eqp _),(51,eqp _),(52,eqp _),(53,eqp (.slice Ap gs.length cp)),(54,eqp _),(55,eqp (.string fs[i].nm)),(56,eqp _),(57,eqp _),(58,eqp _),(59,eqp (.agg (flV f2).toArray)),(60,fun v w'=>∃ q,v=.slice (some ⟨q,0,none⟩) 1 1∧Blk w' q 63 (flV f2).toArray),(61,fun v w'=>∃ A5 c5,v=.slice A5 (gs.length+1) c5∧w'.ownsRow 0 63 3 (.slice A5 (gs.length+1) c5) (gs.length+1) ((gs++[f2]).flatMap flV)∧∀ q,A5.map (·.block)=some q→Ap.map (·.block)=some q∨(w91).heap.size≤q)] (fun w'=>ak w91 w') (fun w'=>Chg (fun k=>Ap.map (·.block)=some k) w91 w'∧Blk w' b12 58 #[.slice Ap gs.length cp,.int .i64 0,.int .i64 ((0:Nat):Int),.bool false]∧Blk w' b6 53 (afV fs[i]).toArray∧ak w w') (by repeat first | exact ck | refine cj ?_ | refine bS ?_) (by kernel_rfl) (by kernel_rfl) (by kernel_rfl) ⟨af _,af _,af _,af _,af _,af _,af _,af _,af _,af _,af _,(fun _ _ _ hF ⟨q,h1,h2⟩=>⟨q,h1,h2.from_ hF⟩),(fun _ _ _ hF ⟨A2,c2,h1,h2,h3⟩=>⟨A2,c2,h1,h2.kept_from hF,h3⟩),trivial⟩ (ak.rfl_.d1) (⟨ak.rfl_.d1.toChg,h10.blk.from_ ak.rfl_.d1,P10a.from_ ak.rfl_.d1,(((((hB.next E6).only O6 (hg6)).next D90).next E48)).d1⟩) (fun _ _ hF h=>h.next hF) (fun _ _ hF h=>⟨h.1.next hF.toChg,h.2.1.from_ hF,h.2.2.1.from_ hF,h.2.2.2.next hF⟩)
    case hop=>
     constructor
     ·rintro-w93 ⟨hC93,hb93,hp93,hw93⟩;exact al (av (v:=.pointer _) rfl) rfl
     constructor
     ·rintro-w94 ⟨hC94,hb94,hp94,hw94⟩;exact al (av (v:=.pointer _) rfl) rfl
     constructor
     ·rintro-w95 ⟨hC95,hb95,hp95,hw95⟩;rintro _ rfl;exact al (aB rfl) rfl
     constructor
     ·rintro-w96 D96;rintro _ rfl;exact al (aj aV rfl) rfl
     constructor
     ·rintro-w97 D97;rintro _ rfl;exact al (ar bM rfl ((h10.blk.from_ D97).rd 0 rfl)) rfl
     constructor
     ·rintro-w98 ⟨hC98,hb98,hp98,hw98⟩;exact al (aj bc rfl) rfl
     constructor
     ·rintro-w99 ⟨hC99,hb99,hp99,hw99⟩;rintro _ rfl;exact al (ar (v:=.string fs[i].nm) bl rfl (hp99.rd 0 rfl)) rfl
     constructor
     ·rintro-w100 ⟨hC100,hb100,hp100,hw100⟩;exact al (av (v:=.slice _ _ _) rfl) rfl
     constructor
     ·rintro-w101 ⟨hC101,hb101,hp101,hw101⟩;exact al (av (v:=.slice _ _ _) rfl) rfl
     constructor
     ·rintro-w102 ⟨hC102,hb102,hp102,hw102⟩;rintro _ rfl _ rfl;exact al (cM (l:=[(0,.tmp 56),(1,.tmp 57)]) (dO _ _ _ _ _ _)) rfl
     constructor
     ·rintro-w103 D103;rintro v103_55 rfl _ rfl;exact al (cn (v':=.agg (flV f2).toArray) (cM (by kernel_rfl)) (by first | (rw [hf2];done) | (rw [hf2];rfl))) rfl
     constructor
     ·rintro-w104 D104;rintro v104_59 rfl;exact du (gX cd rfl rfl rfl) (ak.rfl_.new _) ⟨_,rfl,Blk.new _ _ _⟩
     constructor
     ·intro h;cases h
     exact trivial
    case hmu=>
     rintro w106 D106;rintro v106_53 rfl v106_60 ⟨q106,rfl,hq106⟩;show i_ ..;have hs9:=D106.size;refine jo (base:=0) (news:=flV f2) cd rfl (by decide) rfl (h10.row.kept_from D106) (Nat.zero_le _) rfl rfl ⟨q106,0,rfl,hq106.whole⟩ (ez f2) (by omega) (by omega) ?_;intro A5 c5 w3 ho3 hg3 hL3;refine ⟨⟨D106.toChg.next (Chg.of_grown hg3 (fun k e=>e)),(h10.blk.from_ D106).grown hg3 (b_ (h10.row.kept_from D106) (h10.blk.from_ D106) (by decide)),(P10a.from_ D106).grown hg3 (b_ (h10.row.kept_from D106) (P10a.from_ D106) (by decide)),(hB10.next D106).grew hg3 (fun k hk=>hft k (.inr (.inl hk)))⟩,⟨A5,c5,rfl,by rw [List.flatMap_append];simpa using ho3,fun q hq=>hL3.elim (fun e=>.inl (e ▸ hq)) fun e=>.inr (by rw [e] at hq;cases hq;exact hs9)⟩,fun t u ht h=>fE (by repeat first | exact trivial | refine ⟨.inl rfl,?_⟩ | refine ⟨.inr (fun _ h=>h),?_⟩) t u ht h⟩
    case hend=>
     rintro w107 ⟨hC107,hb107,hp107,hw107⟩;rintro _ rfl _ rfl _ rfl _ rfl v53 rfl _ rfl v55 rfl _ rfl _ rfl _ rfl v59 rfl v60 _ v61 ⟨A61,c61,rfl,ho61,hA61⟩;show St ..;have hC10:=hC107;have hbb:=hb107;refine aa (aB rfl) (aa (aj aV rfl) (dR (v:=.slice _ _ _) eR rfl rfl rfl (hbb) (by show 0<4;decide) ?_));intro w108 O10 P10;refine ah (bk (ae (ag (aa (eo rfl rfl (by omega)) (mvi rfl (ah ?_))))));refine bo ((i+1,gs++[f2],A61,c61)) ⟨(by first | rfl | (refine bw ?_;omega)),trivial⟩ (by (iterate 108 refine aR rfl ?_);exact aZ) ⟨?_,?_⟩
     ·have hr:=eH ho61 O10 (b_ ho61 hbb (by decide));have hC9:Chg (fun k=>k=b12∨Ap.map (·.block)=some k) _ w108:=(hC10.wide fun k hk=>.inl (.inr hk)).next (O10.toChg (.inl rfl))
      have hfo:cQ w108 f2:=(hf10.from_ ak.rfl_).chg hC9 fun k hk e=>by
       have h7:=hB48 k hk;rcases e with e | e
       ·have:=h10.blk.lt;have:=h6.blk.lt;omega
       ·have:=(c9 h6.row k e).2;omega
      have hk:=h10.ins (i:=gs.length) hC9 P10 (Nat.le_refl _) (by rw [List.take_length,List.drop_length];exact hr) hfo (fun g hg=>⟨fun ho k hk hb=>by have:=hB48 k hb;have:=(h6.ok g hg).lt (k:=k) (.inl hk);omega,fun ho k hk hb=>by have:=hB48 k (.inl hk);have:=(h6.ok g hg).lt hb;omega⟩);rw [List.take_length,List.drop_length] at hk
      exact ⟨by omega,by rw [List.length_append,hgl];rfl,fun j hj=>by
       rcases Nat.eq_or_lt_of_le (Nat.le_of_lt_succ hj) with e | e
       ·subst e;exact fun _=>⟨hokn,hlen,hord⟩
       ·exact hoj j e,by unfold aH at hga ⊢;rw [List.map_append,hga,List.take_succ_eq_append_getElem hil,List.map_append,hf2];rfl,hk,fun k hk=>by
       rcases hk with e | e | ⟨f3,h3,e⟩
       ·exact hft k (.inl e)
       ·rcases hA61 k e with e | e
        ·exact hft k (.inr (.inl e))
        ·exact Nat.le_trans hz10 e
       ·rcases List.mem_append.1 h3 with h3 | h3
        ·exact hft k (.inr (.inr ⟨f3,h3,e⟩))
        ·rw [List.mem_singleton.1 h3] at e;have:=hB48 k e;omega,(hw107.only O10 ((hft _ (.inl rfl))))⟩
     ·show fs.length-(i+1)<fs.length-i;omega
  ·have hbad:¬ okJ fs i:=fun h=>hns ((h hil).2.2 (by omega))
   apply bZ 26 [(20,eqp _),(21,eqp (.string fs[i].nm)),(22,fun v w'=>∃ q,v=.slice (some ⟨q,0,none⟩) 1 1∧Blk w' q 9 #[.string fs[i].nm]),(23,eqp _),(24,eqp _),(25,eqp _),(26,eqp _),(27,eqp (.slice fs[i].A fs[i].bs.length fs[i].c)),(28,eqp _),(29,eqp _),(30,eqp _),(31,eqp _),(32,eqp _),(33,eqp _),(34,eqp _),(35,eqp _),(36,eqp _),(37,eqp _),(38,eqp _),(39,eqp _),(40,eqp (.string fs[i-1].nm)),(41,eqp _),(42,eqp (.string fs[i].nm)),(43,eqp _),(44,eqp _),(45,eqp _)] (by repeat first | exact ck | refine cj ?_ | refine bS ?_) (by kernel_rfl) (by kernel_rfl) ⟨af _,af _,(fun _ _ _ hF ⟨q,h1,h2⟩=>⟨q,h1,h2.from_ hF⟩),af _,af _,af _,af _,af _,af _,af _,af _,af _,af _,af _,af _,af _,af _,af _,af _,af _,af _,af _,af _,af _,af _,af _,trivial⟩
   case hop=>
    constructor
    ·rintro-w110 D110;exact al (aj bc rfl) rfl
    constructor
    ·rintro-w111 D111;rintro _ rfl;exact al (ar bl rfl (by exact (P6.from_ (ak.rfl_.next D111)).rd 0 rfl)) rfl
    constructor
    ·rintro-w112 D112;rintro v112_21 rfl;exact du (en (v:=.string fs[i].nm) bW rfl rfl rfl) (ak.rfl_.new _) ⟨_,rfl,Blk.new _ _ _⟩
    constructor
    ·rintro-w113 D113;rintro v113_22 ⟨q22,rfl,hq22⟩;refine er cw ((cL (some ⟨q22,0,none⟩) 1 1 [fs[i].nm] _ (eU hq22) rfl (by omega) (fun s hs=>by rw [List.mem_singleton.1 hs];exact (hall _ (List.getElem_mem hil)).2.1)).mono ?_);rintro v _ ⟨rfl,E113'⟩;exact ⟨E113',rfl⟩
    constructor
    ·rintro-w114 D114;rintro _ rfl;exact al (cG (fx rfl) (by simp [hokn])) rfl
    constructor
    ·rintro-w115 D115;rintro _ rfl;exact al (av (v:=.bool _) rfl) rfl
    constructor
    ·rintro-w116 D116;rintro _ rfl;exact ay rfl (aj bX rfl) rfl
    constructor
    ·rintro-w117 D117;rintro _ rfl _ rfl;exact ay rfl (ar (v:=.slice fs[i].A fs[i].bs.length fs[i].c) a8 rfl ((P6.from_ (ak.rfl_.next D117)).rd 1 rfl)) rfl
    constructor
    ·rintro-w118 D118;rintro _ rfl v118_27 rfl;exact ay rfl (aX dD rfl) rfl
    constructor
    ·rintro-w119 D119;rintro _ rfl _ rfl;exact ay rfl (cG (bh rfl rfl) (decide_eq_false (by omega))) rfl
    constructor
    ·rintro-w120 D120;rintro _ rfl _ rfl;exact al (aq (v:=.bool _) rfl rfl) rfl
    constructor
    ·rintro-w121 D121;rintro _ rfl;exact al (av (v:=.bool _) rfl) rfl
    constructor
    ·rintro-w122 D122;rintro _ rfl;exact ay rfl (av (v:=.int _ _) rfl) rfl
    constructor
    ·rintro-w123 D123;rintro _ rfl _ rfl;exact ay rfl (fv (bh rfl rfl) (decide_eq_true (by omega))) rfl
    constructor
    ·rintro-w124 D124;rintro _ rfl _ rfl;exact ay rfl (av (v:=.bool _) rfl) rfl
    constructor
    ·rintro-w125 D125;rintro _ rfl;exact ay rfl (av (v:=.slice _ _ _) rfl) rfl
    constructor
    ·rintro-w126 D126;rintro _ rfl;exact ay rfl (av (v:=.int _ _) rfl) rfl
    constructor
    ·rintro-w127 D127;rintro _ rfl _ rfl;exact ay rfl (fh (b:=1) rfl rfl (by omega)) rfl
    constructor
    ·rintro-w128 D128;rintro _ rfl _ rfl _ rfl;exact ay rfl (aJ dF rfl rfl (by omega)) rfl
    constructor
    ·rintro-w129 D129;rintro _ rfl _ rfl;exact ay rfl (aj bc rfl) rfl
    constructor
    ·rintro-w130 D130;rintro _ rfl _ rfl;exact ay rfl (ar (v:=.string fs[i-1].nm) bl rfl (by have h9:=cg (((hB.next E6).only O6 (hg6)).next D130) ((hcd (i-1) (by omega)) 0 _ rfl);simpa using h9)) rfl
    constructor
    ·rintro-w131 D131;rintro _ rfl;exact ay rfl (aj bc rfl) rfl
    constructor
    ·rintro-w132 D132;rintro _ rfl _ rfl;exact ay rfl (ar (v:=.string fs[i].nm) bl rfl ((P6.from_ (ak.rfl_.next D132)).rd 0 rfl)) rfl
    constructor
    ·rintro-w133 D133;rintro _ rfl v133_40 rfl v133_42 rfl;exact ay rfl (fv (jl rfl rfl) (l5 hns)) rfl
    constructor
    ·rintro-w134 D134;rintro _ rfl _ rfl _ rfl;exact ay rfl (ax (v:=.bool _) rfl rfl) rfl
    constructor
    ·rintro-w135 D135;rintro _ rfl _ rfl;exact al (aq (v:=.bool _) rfl rfl) rfl
    exact trivial
   case hend=>
    intro w136 D136;rintro _ rfl v21 rfl v22 ⟨q22,rfl,hq22⟩ _ rfl _ rfl _ rfl _ rfl v27 rfl _ rfl _ rfl _ rfl _ rfl _ rfl _ rfl _ rfl _ rfl _ rfl _ rfl _ rfl _ rfl v40 rfl _ rfl v42 rfl _ rfl _ rfl _ rfl;show St ..;refine ah (ae (cP rfl (ai (ag (asp rfl (asi rfl (ah (ae (aA (az (aU (az (az (aU (az (dU (v:=.pointer _) (v':=.int _ _) rfl rfl rfl (⟨.inl ⟨fun h=>hbad (h.2 i),rfl⟩,(((hB.next E6).only O6 (hg6)).next D136)⟩)))))))))))))))))
  have hord:0<i→sLt (fs[i-1]'(by omega)).nm fs[i].nm:=fun _=>hsl
  apply bZ 26 [(20,eqp _),(21,eqp (.string fs[i].nm)),(22,fun v w'=>∃ q,v=.slice (some ⟨q,0,none⟩) 1 1∧Blk w' q 9 #[.string fs[i].nm]),(23,eqp _),(24,eqp _),(25,eqp _),(26,eqp _),(27,eqp (.slice fs[i].A fs[i].bs.length fs[i].c)),(28,eqp _),(29,eqp _),(30,eqp _),(31,eqp _),(32,eqp _),(33,eqp _),(34,eqp _),(35,eqp _),(36,eqp _),(37,eqp _),(38,eqp _),(39,eqp _),(40,eqp (.string fs[i-1].nm)),(41,eqp _),(42,eqp (.string fs[i].nm)),(43,eqp _),(44,eqp _),(45,eqp _)] (by repeat first | exact ck | refine cj ?_ | refine bS ?_) (by kernel_rfl) (by kernel_rfl) ⟨af _,af _,(fun _ _ _ hF ⟨q,h1,h2⟩=>⟨q,h1,h2.from_ hF⟩),af _,af _,af _,af _,af _,af _,af _,af _,af _,af _,af _,af _,af _,af _,af _,af _,af _,af _,af _,af _,af _,af _,af _,trivial⟩
  case hop=>
   constructor
   ·rintro-w138 D138;exact al (aj bc rfl) rfl
   constructor
   ·rintro-w139 D139;rintro _ rfl;exact al (ar bl rfl (by exact (P6.from_ (ak.rfl_.next D139)).rd 0 rfl)) rfl
   constructor
   ·rintro-w140 D140;rintro v140_21 rfl;exact du (en (v:=.string fs[i].nm) bW rfl rfl rfl) (ak.rfl_.new _) ⟨_,rfl,Blk.new _ _ _⟩
   constructor
   ·rintro-w141 D141;rintro v141_22 ⟨q22,rfl,hq22⟩;refine er cw ((cL (some ⟨q22,0,none⟩) 1 1 [fs[i].nm] _ (eU hq22) rfl (by omega) (fun s hs=>by rw [List.mem_singleton.1 hs];exact (hall _ (List.getElem_mem hil)).2.1)).mono ?_);rintro v _ ⟨rfl,E141'⟩;exact ⟨E141',rfl⟩
   constructor
   ·rintro-w142 D142;rintro _ rfl;exact al (cG (fx rfl) (by simp [hokn])) rfl
   constructor
   ·rintro-w143 D143;rintro _ rfl;exact al (av (v:=.bool _) rfl) rfl
   constructor
   ·rintro-w144 D144;rintro _ rfl;exact ay rfl (aj bX rfl) rfl
   constructor
   ·rintro-w145 D145;rintro _ rfl _ rfl;exact ay rfl (ar (v:=.slice fs[i].A fs[i].bs.length fs[i].c) a8 rfl ((P6.from_ (ak.rfl_.next D145)).rd 1 rfl)) rfl
   constructor
   ·rintro-w146 D146;rintro _ rfl v146_27 rfl;exact ay rfl (aX dD rfl) rfl
   constructor
   ·rintro-w147 D147;rintro _ rfl _ rfl;exact ay rfl (cG (bh rfl rfl) (decide_eq_false (by omega))) rfl
   constructor
   ·rintro-w148 D148;rintro _ rfl _ rfl;exact al (aq (v:=.bool _) rfl rfl) rfl
   constructor
   ·rintro-w149 D149;rintro _ rfl;exact al (av (v:=.bool _) rfl) rfl
   constructor
   ·rintro-w150 D150;rintro _ rfl;exact ay rfl (av (v:=.int _ _) rfl) rfl
   constructor
   ·rintro-w151 D151;rintro _ rfl _ rfl;exact ay rfl (fv (bh rfl rfl) (decide_eq_true (by omega))) rfl
   constructor
   ·rintro-w152 D152;rintro _ rfl _ rfl;exact ay rfl (av (v:=.bool _) rfl) rfl
   constructor
   ·rintro-w153 D153;rintro _ rfl;exact ay rfl (av (v:=.slice _ _ _) rfl) rfl
   constructor
   ·rintro-w154 D154;rintro _ rfl;exact ay rfl (av (v:=.int _ _) rfl) rfl
   constructor
   ·rintro-w155 D155;rintro _ rfl _ rfl;exact ay rfl (fh (b:=1) rfl rfl (by omega)) rfl
   constructor
   ·rintro-w156 D156;rintro _ rfl _ rfl _ rfl;exact ay rfl (aJ dF rfl rfl (by omega)) rfl
   constructor
   ·rintro-w157 D157;rintro _ rfl _ rfl;exact ay rfl (aj bc rfl) rfl
   constructor
   ·rintro-w158 D158;rintro _ rfl _ rfl;exact ay rfl (ar (v:=.string fs[i-1].nm) bl rfl (by have h9:=cg (((hB.next E6).only O6 (hg6)).next D158) ((hcd (i-1) (by omega)) 0 _ rfl);simpa using h9)) rfl
   constructor
   ·rintro-w159 D159;rintro _ rfl;exact ay rfl (aj bc rfl) rfl
   constructor
   ·rintro-w160 D160;rintro _ rfl _ rfl;exact ay rfl (ar (v:=.string fs[i].nm) bl rfl ((P6.from_ (ak.rfl_.next D160)).rd 0 rfl)) rfl
   constructor
   ·rintro-w161 D161;rintro _ rfl v161_40 rfl v161_42 rfl;exact ay rfl (cG (jl rfl rfl) (kU hsl)) rfl
   constructor
   ·rintro-w162 D162;rintro _ rfl _ rfl _ rfl;exact ay rfl (ax (v:=.bool _) rfl rfl) rfl
   constructor
   ·rintro-w163 D163;rintro _ rfl _ rfl;exact al (aq (v:=.bool _) rfl rfl) rfl
   exact trivial
  case hend=>
   intro w164 D164;rintro _ rfl v21 rfl v22 ⟨q22,rfl,hq22⟩ _ rfl _ rfl _ rfl _ rfl v27 rfl _ rfl _ rfl _ rfl _ rfl _ rfl _ rfl _ rfl _ rfl _ rfl _ rfl _ rfl _ rfl v40 rfl _ rfl v42 rfl _ rfl _ rfl _ rfl;show St ..;refine ah (ae (bA rfl (aD (ae (ai (ag (aa (aj bX rfl) (aa (ar a8 rfl (by exact (P6.from_ (ak.rfl_.next D164)).rd 1 rfl)) ?_))))))));have hM48:ak _ w164:=(ak.rfl_.next D164);refine aG eh (aP fs[i].A fs[i].c fs[i].bs.length fs[i].bs _ ((hall _ (List.getElem_mem hil)).1.from_ (((hB.next E6).only O6 (hg6)).next D164)) rfl (by omega)) ?_;rintro v48 w165 ⟨⟨A48,c48,rfl,ho48⟩,E48⟩;have h10:=h6.from_ (((ak.rfl_.next D164).next E48));have hB10:ak w w165:=((((hB.next E6).only O6 (hg6)).next D164).next E48);have P10a:=P6.from_ (((ak.rfl_.next D164).next E48));obtain ⟨f2,hf2⟩:∃ f2:Fl,f2=⟨fs[i].nm,A48,c48,A48,c48,fs[i].bs,fs[i].bs,true⟩:=⟨_,rfl⟩;have hz10:=(((((hB.next E6).only O6 (hg6)).next D164).next E48)).size;have hB48:∀ k,f2.B k→z6≤k:=by rw [hf2,hz6e];exact fun k hk=>hk.elim (fun e=>Nat.le_trans hM48.size (c9 ho48 k e).1) fun e=>Nat.le_trans hM48.size (c9 ho48 k e).1
   have hf10:cQ w165 f2:=by rw [hf2];exact ⟨(RB.own ho48 (hall _ (List.getElem_mem hil)).1.bt).2,(RB.own ho48 (hall _ (List.getElem_mem hil)).1.bt).2,TyB.own ho48,TyB.own ho48,fun _=>⟨iM ho48 (Nat.zero_le _),.inr ⟨rfl,[],(List.append_nil _).symm⟩⟩,fun h=>by cases h⟩
   refine ass rfl (ah (ae ?_));apply kK 13 12 [60] [(49,eqp _),(50,eqp _),(51,eqp _),(52,eqp _),(53,eqp (.slice Ap gs.length cp)),(54,eqp _),(55,eqp (.string fs[i].nm)),(56,eqp _),(57,eqp _),(58,eqp _),(59,eqp (.agg (flV f2).toArray)),(60,fun v w'=>∃ q,v=.slice (some ⟨q,0,none⟩) 1 1∧Blk w' q 63 (flV f2).toArray),(61,fun v w'=>∃ A5 c5,v=.slice A5 (gs.length+1) c5∧w'.ownsRow 0 63 3 (.slice A5 (gs.length+1) c5) (gs.length+1) ((gs++[f2]).flatMap flV)∧∀ q,A5.map (·.block)=some q→Ap.map (·.block)=some q∨(w165).heap.size≤q)] (fun w'=>ak w165 w') (fun w'=>Chg (fun k=>Ap.map (·.block)=some k) w165 w'∧Blk w' b12 58 #[.slice Ap gs.length cp,.int .i64 0,.int .i64 ((0:Nat):Int),.bool false]∧Blk w' b6 53 (afV fs[i]).toArray∧ak w w') (by repeat first | exact ck | refine cj ?_ | refine bS ?_) (by kernel_rfl) (by kernel_rfl) (by kernel_rfl) ⟨af _,af _,af _,af _,af _,af _,af _,af _,af _,af _,af _,(fun _ _ _ hF ⟨q,h1,h2⟩=>⟨q,h1,h2.from_ hF⟩),(fun _ _ _ hF ⟨A2,c2,h1,h2,h3⟩=>⟨A2,c2,h1,h2.kept_from hF,h3⟩),trivial⟩ (ak.rfl_.d1) (⟨ak.rfl_.d1.toChg,h10.blk.from_ ak.rfl_.d1,P10a.from_ ak.rfl_.d1,(((((hB.next E6).only O6 (hg6)).next D164).next E48)).d1⟩) (fun _ _ hF h=>h.next hF) (fun _ _ hF h=>⟨h.1.next hF.toChg,h.2.1.from_ hF,h.2.2.1.from_ hF,h.2.2.2.next hF⟩)
   case hop=>
    constructor
    ·rintro-w167 ⟨hC167,hb167,hp167,hw167⟩;exact al (av (v:=.pointer _) rfl) rfl
    constructor
    ·rintro-w168 ⟨hC168,hb168,hp168,hw168⟩;exact al (av (v:=.pointer _) rfl) rfl
    constructor
    ·rintro-w169 ⟨hC169,hb169,hp169,hw169⟩;rintro _ rfl;exact al (aB rfl) rfl
    constructor
    ·rintro-w170 D170;rintro _ rfl;exact al (aj aV rfl) rfl
    constructor
    ·rintro-w171 D171;rintro _ rfl;exact al (ar bM rfl ((h10.blk.from_ D171).rd 0 rfl)) rfl
    constructor
    ·rintro-w172 ⟨hC172,hb172,hp172,hw172⟩;exact al (aj bc rfl) rfl
    constructor
    ·rintro-w173 ⟨hC173,hb173,hp173,hw173⟩;rintro _ rfl;exact al (ar (v:=.string fs[i].nm) bl rfl (hp173.rd 0 rfl)) rfl
    constructor
    ·rintro-w174 ⟨hC174,hb174,hp174,hw174⟩;exact al (av (v:=.slice _ _ _) rfl) rfl
    constructor
    ·rintro-w175 ⟨hC175,hb175,hp175,hw175⟩;exact al (av (v:=.slice _ _ _) rfl) rfl
    constructor
    ·rintro-w176 ⟨hC176,hb176,hp176,hw176⟩;rintro _ rfl _ rfl;exact al (cM (l:=[(0,.tmp 56),(1,.tmp 57)]) (dO _ _ _ _ _ _)) rfl
    constructor
    ·rintro-w177 D177;rintro v177_55 rfl _ rfl;exact al (cn (v':=.agg (flV f2).toArray) (cM (by kernel_rfl)) (by first | (rw [hf2];done) | (rw [hf2];rfl))) rfl
    constructor
    ·rintro-w178 D178;rintro v178_59 rfl;exact du (gX cd rfl rfl rfl) (ak.rfl_.new _) ⟨_,rfl,Blk.new _ _ _⟩
    constructor
    ·intro h;cases h
    exact trivial
   case hmu=>
    rintro w180 D180;rintro v180_53 rfl v180_60 ⟨q180,rfl,hq180⟩;show i_ ..;have hs9:=D180.size;refine jo (base:=0) (news:=flV f2) cd rfl (by decide) rfl (h10.row.kept_from D180) (Nat.zero_le _) rfl rfl ⟨q180,0,rfl,hq180.whole⟩ (ez f2) (by omega) (by omega) ?_;intro A5 c5 w3 ho3 hg3 hL3;refine ⟨⟨D180.toChg.next (Chg.of_grown hg3 (fun k e=>e)),(h10.blk.from_ D180).grown hg3 (b_ (h10.row.kept_from D180) (h10.blk.from_ D180) (by decide)),(P10a.from_ D180).grown hg3 (b_ (h10.row.kept_from D180) (P10a.from_ D180) (by decide)),(hB10.next D180).grew hg3 (fun k hk=>hft k (.inr (.inl hk)))⟩,⟨A5,c5,rfl,by rw [List.flatMap_append];simpa using ho3,fun q hq=>hL3.elim (fun e=>.inl (e ▸ hq)) fun e=>.inr (by rw [e] at hq;cases hq;exact hs9)⟩,fun t u ht h=>fE (by repeat first | exact trivial | refine ⟨.inl rfl,?_⟩ | refine ⟨.inr (fun _ h=>h),?_⟩) t u ht h⟩
   case hend=>
    rintro w181 ⟨hC181,hb181,hp181,hw181⟩;rintro _ rfl _ rfl _ rfl _ rfl v53 rfl _ rfl v55 rfl _ rfl _ rfl _ rfl v59 rfl v60 _ v61 ⟨A61,c61,rfl,ho61,hA61⟩;show St ..;have hC10:=hC181;have hbb:=hb181;refine aa (aB rfl) (aa (aj aV rfl) (dR (v:=.slice _ _ _) eR rfl rfl rfl (hbb) (by show 0<4;decide) ?_));intro w182 O10 P10;refine ah (bk (ae (ag (aa (eo rfl rfl (by omega)) (mvi rfl (ah ?_))))));refine bo ((i+1,gs++[f2],A61,c61)) ⟨(by first | rfl | (refine bw ?_;omega)),trivial⟩ (by (iterate 108 refine aR rfl ?_);exact aZ) ⟨?_,?_⟩
    ·have hr:=eH ho61 O10 (b_ ho61 hbb (by decide));have hC9:Chg (fun k=>k=b12∨Ap.map (·.block)=some k) _ w182:=(hC10.wide fun k hk=>.inl (.inr hk)).next (O10.toChg (.inl rfl))
     have hfo:cQ w182 f2:=(hf10.from_ ak.rfl_).chg hC9 fun k hk e=>by
      have h7:=hB48 k hk;rcases e with e | e
      ·have:=h10.blk.lt;have:=h6.blk.lt;omega
      ·have:=(c9 h6.row k e).2;omega
     have hk:=h10.ins (i:=gs.length) hC9 P10 (Nat.le_refl _) (by rw [List.take_length,List.drop_length];exact hr) hfo (fun g hg=>⟨fun ho k hk hb=>by have:=hB48 k hb;have:=(h6.ok g hg).lt (k:=k) (.inl hk);omega,fun ho k hk hb=>by have:=hB48 k (.inl hk);have:=(h6.ok g hg).lt hb;omega⟩);rw [List.take_length,List.drop_length] at hk
     exact ⟨by omega,by rw [List.length_append,hgl];rfl,fun j hj=>by
      rcases Nat.eq_or_lt_of_le (Nat.le_of_lt_succ hj) with e | e
      ·subst e;exact fun _=>⟨hokn,hlen,hord⟩
      ·exact hoj j e,by unfold aH at hga ⊢;rw [List.map_append,hga,List.take_succ_eq_append_getElem hil,List.map_append,hf2];rfl,hk,fun k hk=>by
      rcases hk with e | e | ⟨f3,h3,e⟩
      ·exact hft k (.inl e)
      ·rcases hA61 k e with e | e
       ·exact hft k (.inr (.inl e))
       ·exact Nat.le_trans hz10 e
      ·rcases List.mem_append.1 h3 with h3 | h3
       ·exact hft k (.inr (.inr ⟨f3,h3,e⟩))
       ·rw [List.mem_singleton.1 h3] at e;have:=hB48 k e;omega,(hw181.only O10 ((hft _ (.inl rfl))))⟩
    ·show fs.length-(i+1)<fs.length-i;omega
 refine bY (aS (aS (fN (ae (ai (ag (mvp rfl (asp rfl (asi rfl (ah (ae (aA (dU (v:=.pointer _) (v':=.int _ _) rfl rfl rfl ?_)))))))))))));obtain rfl:i=fs.length:=by omega
 rw [List.take_length] at hga;have hall2:∀ j,okJ fs j:=fun j h=>hoj j h h
 have hks:=l6 hall2
 refine ⟨.inr ⟨⟨by omega,hall2⟩,b12,rfl,⟨gs,Ap,cp,0,hD.from_ ak.rfl_,hga,⟨hks,by rw [List.length_map];omega,fun e he=>by
  obtain ⟨f,hf,rfl⟩:=List.mem_map.1 he;obtain ⟨j,hj,rfl⟩:=List.getElem_of_mem hf;exact ⟨(hall2 j hj).2.1,(hall2 j hj).2.1⟩⟩,by omega,hft⟩⟩,hB⟩
end Go.Proofs.Ytmbcbinocebodaa
