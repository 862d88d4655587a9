/- texts that the claim stands on. -/
import Derived.Test.YtkpooenofjdpmaaGreatSlRfLawV52

set_option maxRecDepth 100000
set_option maxHeartbeats 4000000
namespace Go.Proofs.YtkpooenofjdpmaaGreat
open Go.Proofs.Tryz (prog)
open Go.RowKit
def tH (l:List Oper):Bool:=(List.range l.length).all fun i=>match l[i]? with
 |none=>false
 |some o=>o.after.toList.all fun e=> !Region.binds .any e||decide (e.on<i)
section
variable {P:Program} {Q:Exit→Act→World→Prop} {n:Fr} {L:List (Nat×Value)} {w:World} {l:List Oper}
theorem xB {Inv:(Nat→Bool)→List (Nat×Value)→World→Prop} (hwf:tH l=true)
 (hstep:∀ (i:Nat) (o:Oper) (S:Nat→Bool) (L':List (Nat×Value)) (w':World),l[i]? =some o→Inv S L' w'→S i=false→(∀ e∈o.after,Region.binds .any e=true→S e.on=true)→Region.wanted o (yielded l.toArray (mkT n.n L'))=true∧gD P n o (Inv (dH S i)) L' w')
 (hend:∀ L' w',Inv (fun i=>decide (i<l.length)) L' w'→Q .normal (mkA n L') w') :
 ∀ (m:Nat) (listed:Array Bool) (L':List (Nat×Value)) (w':World),listed.toList.count false=m→listed.size=l.length→Inv (fun i=>listed.getD i false) L' w'→wpAny P .any l.toArray Q m listed (mkA n L') w':=by
 have hck:=List.all_eq_true.1 hwf;intro m
 induction m with
 |zero=>
  intro listed L' w' hcount hs hI
  have hall:∀ i,i<l.length→listed.getD i false=true:=fun i hi=>by
   have hm:listed[i]'(by omega)∈listed.toList:=by simp
   cases hb:listed[i]'(by omega) with
   |true=>simp [Array.getD,show i<listed.size by omega,hb]
   |false=>rw [hb] at hm;exact absurd hcount (Nat.pos_iff_ne_zero.1 (List.count_pos_iff.2 hm))
  have e:(fun i=>listed.getD i false)=fun i=>decide (i<l.length):=by
   funext i
   by_cases hi:i<l.length
   ·rw [hall i hi,decide_eq_true hi]
   ·rw [decide_eq_false hi];simp [Array.getD,show ¬ i<listed.size by omega]
  rw [e] at hI;refine ⟨?_,hend L' w' hI⟩;cases hr:Region.ready .any l.toArray listed with
  |nil=>rfl
  |cons i r=>
   exfalso;obtain ⟨h0,o,ho,_⟩:=mem_ready.1 (show i∈Region.ready .any l.toArray listed by rw [hr];simp);rw [List.getElem?_toArray] at ho;have hil:i<l.length:=(List.getElem?_eq_some_iff.1 ho).1;have:=hall i hil;rw [←bM (by omega),h0] at this;cases this
 |succ m ih=>
  intro listed L' w' hcount hs hI
  have hn0:∃ i,i<l.length∧listed.getD i true=false:=by
   have hpos:0<listed.toList.count false:=by omega
   obtain ⟨i,hi,hb⟩:=List.getElem_of_mem (List.count_pos_iff.1 hpos);rw [Array.length_toList] at hi;refine ⟨i,by omega,?_⟩;rw [Array.getElem_toList] at hb;simp [Array.getD,hi,hb]
  obtain ⟨i0,hi0,hmin⟩:=exists_least (p:=fun i=>i<l.length∧listed.getD i true=false) hn0
  have hready:i0∈Region.ready .any l.toArray listed:=by
   refine mem_ready.2 ⟨hi0.2,l[i0]'hi0.1,by rw [List.getElem?_toArray,List.getElem?_eq_getElem hi0.1],fun e he hb=>?_⟩;have hx:=hck i0 (List.mem_range.2 hi0.1);rw [List.getElem?_eq_getElem hi0.1] at hx;have he2:=List.all_eq_true.1 hx e (by simpa using he);rw [hb] at he2;simp at he2;have:=hi0.1;rw [←bM (by omega)];cases hb2:listed.getD e.on true with
   |true=>rfl
   |false=>exact absurd (hmin e.on ⟨by omega,hb2⟩) (by omega)
  refine ⟨fun h0=>(by rw [h0] at hready;cases hready),fun i hi=>?_⟩;obtain ⟨h0,o,ho,hall⟩:=mem_ready.1 hi;rw [List.getElem?_toArray] at ho;have hil:i<l.length:=(List.getElem?_eq_some_iff.1 ho).1;have hx:=hck i (List.mem_range.2 hil);rw [ho] at hx;have h0f:listed.getD i false=false:=by rw [←bM (by omega)];exact h0
  have hset:(fun j=>(listed.setIfInBounds i true).getD j false)=dH (fun j=>listed.getD j false) i:=by
   funext j
   unfold dH;by_cases e:j=i
   ·subst e;simp [Array.getD,show j<listed.size by omega]
   ·rw [if_neg e,getD_set_ne false (Ne.symm e)]
  have hcnt:(listed.setIfInBounds i true).toList.count false=m:=by
   have hil':i<listed.size:=by omega
   have hfalse:listed.toList[i]? =some false:=by
    rw [Array.getElem?_toList,Array.getElem?_eq_getElem hil'];simp [Array.getD,hil'] at h0;rw [h0]
   rw [Array.toList_setIfInBounds];have:=eW (l:=listed.toList) (i:=i) hfalse;omega
  have next:∀ L2 w2,Inv (dH (fun j=>listed.getD j false) i) L2 w2→wpAny P .any l.toArray Q m (listed.setIfInBounds i true) (mkA n L2) w2:=fun L2 w2 h=>
   ih _ L2 w2 hcnt (by simpa using hs) (by rw [hset];exact h)
  unfold wpOp;rw [List.getElem?_toArray,ho];show if Region.wanted o (yielded l.toArray (mkT n.n L'))=true then _ else _
  rw [if_pos (hstep i o _ L' w' ho hI h0f hall).1];refine .inl ?_;unfold Oper.wp;rw [dy];rcases (hstep i o _ L' w' ho hI h0f hall).2 with ⟨d,v,w'',hd,hr,hI2⟩ | ⟨w'',hd,hr,hI2⟩ | ⟨d,f,args,hd,hr,hc⟩
  ·rw [hr,Oper.upon_value,hd,fJ];exact next _ _ hI2
  ·rw [hr,Oper.upon_skip,hd];exact next _ _ hI2
  ·rw [hr,Oper.upon_enter,hd];refine Calls.mono hc fun e w'' ⟨v,he,hI2⟩=>?_
   subst he;show wpAny P .any l.toArray Q m (listed.setIfInBounds i true) ((mkA n L').put (some d) v) w'';rw [fJ];exact next _ _ hI2
theorem y_ {id:Nat} (Inv:(Nat→Bool)→List (Nat×Value)→World→Prop) (hm:P.follows .mixedOrders=true) (hwf:tH l=true) (h0:Inv (fun _=>false) L { w with drawn:=w.drawn+1 })
 (hstep:∀ (i:Nat) (o:Oper) (S:Nat→Bool) (L':List (Nat×Value)) (w':World),l[i]? =some o→Inv S L' w'→S i=false→(∀ e∈o.after,Region.binds .any e=true→S e.on=true)→Region.wanted o (yielded l.toArray (mkT n.n L'))=true∧gD P n o (Inv (dH S i)) L' w')
 (hend:∀ L' w',Inv (fun i=>decide (i<l.length)) L' w'→Q .normal (mkA n L') w'):Cd P (.region id l.toArray true) Q n L w:=by
 refine ⟨wp_region_any hm ?_⟩
 have:=xB (Q:=Q) hwf hstep hend l.length (Array.replicate l.length false) L { w with drawn:=w.drawn+1 } (by simp) (by simp) (by
  have e:(fun i=>(Array.replicate l.length false).getD i false)=fun _=>false:=by
   funext i
   by_cases hi:i<l.length <;> simp [Array.getD,hi]
  rw [e];exact h0)
 simpa using this
def ym (o:Oper):Oper:={ o with guard:=none }
theorem vB (ρ:Operand→Value) (o:Oper):execOp ρ (ym o)=execOp ρ o:=by
 obtain ⟨dst,op,ty,pos,after,g⟩:=o;cases op <;> rfl
theorem vb {o:Oper} {Inv:List (Nat×Value)→World→Prop} {L':List (Nat×Value)} {w':World} (h:gD P n (ym o) Inv L' w'):gD P n o Inv L' w':=by
 unfold gD at h ⊢;simp only [vB] at h;exact h
def gdB (n:Fr) (T:List (Nat×Nat×Value)) (l:List Oper) (o:Oper):Bool:=match o.guard with
 |none=>true
 |some (j,b)=>o.after.toList.any (fun e=>e.on==j&&Region.binds .any e)&&match T.find? fun p=>p.1==j with
  |some (_,t,.bool x)=>(x==b)&&(match j8 l j with | some t'=>t'==t&&Nat.blt t n.n | none=>false)
  |_=>false
end
end Go.Proofs.YtkpooenofjdpmaaGreat
namespace Go.Proofs.YtkpooenofjdpmaaGreat
open Go.Proofs.Tryz (prog)
open Go.RowKit
abbrev PT:=List (Nat×Nat×((Nat→Bool)→Value→World→Prop))
def ku (L:List (Nat×Value)) (T:PT) (S:Nat→Bool) (L':List (Nat×Value)) (w:World):Prop:=
 (∀ t,(∀ p∈T,p.2.1≠t)→bu L' t=bu L t)∧(∀ p∈T,S p.1=true→p.2.2 S (bu L' p.2.1) w)∧∀ p∈T,S p.1=false→bu L' p.2.1=bu L p.2.1
def mV:List (Nat×Nat)→Prop
 |[]=>True
 |p::r=>(∀ q∈r,q.1≠p.1∧q.2≠p.2)∧mV r
def u_:List (Nat×Nat)→Bool
 |[]=>true
 |p::r=>(r.all fun q=> !(Nat.beq q.1 p.1)&&!(Nat.beq q.2 p.2))&&u_ r
theorem wX {a b:Nat}:Nat.beq a b=false↔a≠b:=by
 refine ⟨fun h e=>?_,fun h=>?_⟩
 ·subst e;rw [Nat.beq_refl] at h;cases h
 ·rcases hb:Nat.beq a b with _ | _
  ·rfl
  ·exact absurd (Nat.eq_of_beq_eq_true hb) h
theorem lT:∀ {l:List (Nat×Nat)},u_ l=true→mV l
 |[],_=>trivial
 |p::r,h=>by
  simp only [u_,Bool.and_eq_true,List.all_eq_true,Bool.not_eq_true',wX] at h;exact ⟨fun q hq=>h.1 q hq,lT h.2⟩
theorem nO:∀ {T:PT},mV (T.map fun p=>(p.1,p.2.1))→∀ {p q:Nat×Nat×((Nat→Bool)→Value→World→Prop)},p∈T→q∈T→p.1=q.1∨p.2.1=q.2.1→p=q
 |_::_,⟨h1,h2⟩,p,q,hp,hq,he=>by
  rcases List.mem_cons.1 hp with rfl | hp' <;> rcases List.mem_cons.1 hq with rfl | hq'
  ·rfl
  ·rcases he with e | e
   ·exact absurd e.symm (h1 _ (List.mem_map_of_mem (f:=fun p=>(p.1,p.2.1)) hq')).1
   ·exact absurd e.symm (h1 _ (List.mem_map_of_mem (f:=fun p=>(p.1,p.2.1)) hq')).2
  ·rcases he with e | e
   ·exact absurd e (h1 _ (List.mem_map_of_mem (f:=fun p=>(p.1,p.2.1)) hp')).1
   ·exact absurd e (h1 _ (List.mem_map_of_mem (f:=fun p=>(p.1,p.2.1)) hp')).2
  ·exact nO h2 hp' hq' he
theorem ku.get {L:List (Nat×Value)} {T:PT} {S:Nat→Bool} {L':List (Nat×Value)} {w:World} {i d:Nat} {R:(Nat→Bool)→Value→World→Prop} (h:ku L T S L' w) (hp:(i,d,R)∈T) (hs:S i=true):∃ v,bu L' d=v∧R S v w:=⟨_,rfl,h.2.1 _ hp hs⟩
theorem dY {S:Nat→Bool} {i k:Nat} (h:dH S i k=false):S k=false:=by
 unfold dH at h;split at h
 ·cases h
 ·exact h
theorem jr {S:Nat→Bool} {i k:Nat} (hk:k≠i) (h:dH S i k=true):S k=true:=by
 unfold dH at h
 rwa [if_neg hk] at h
theorem dS (S:Nat→Bool) (i:Nat):dH S i i=true:=by unfold dH;rw [if_pos rfl]
theorem eZ {S:Nat→Bool} {i k:Nat} (hk:k≠i):dH S i k=S k:=by unfold dH;rw [if_neg hk]
def mw (Mu:List Nat):PT→Prop
 |[]=>True
 |p::r=>(∀ S i v w1 w2,Mu.elem i=false→ag w1 w2→p.2.2 S v w1→p.2.2 (dH S i) v w2)∧mw Mu r
def ChP (i:Nat) (S:Nat→Bool) (w1 w2:World):PT→Prop
 |[]=>True
 |p::r=>(Nat.beq p.1 i=false→S p.1=true→∀ v,p.2.2 S v w1→p.2.2 (dH S i) v w2)∧ChP i S w1 w2 r
theorem rW {Mu:List Nat}:∀ {T:PT},mw Mu T→∀ p∈T,∀ S i v w1 w2,Mu.elem i=false→ag w1 w2→p.2.2 S v w1→p.2.2 (dH S i) v w2
 |_::_,⟨h1,h2⟩,p,hp=>by
  rcases List.mem_cons.1 hp with rfl | hp
  ·exact h1
  ·exact rW h2 p hp
theorem tP {i:Nat} {S:Nat→Bool} {w1 w2:World}:∀ {T:PT},ChP i S w1 w2 T→∀ p∈T,p.1≠i→S p.1=true→∀ v,p.2.2 S v w1→p.2.2 (dH S i) v w2
 |_::_,⟨h1,h2⟩,p,hp=>by
  rcases List.mem_cons.1 hp with rfl | hp
  ·exact fun hne=>h1 (by rw [wX];exact hne)
  ·exact tP h2 p hp
theorem ku.next {L:List (Nat×Value)} {T:PT} {S:Nat→Bool} {L':List (Nat×Value)} {w w':World} {i d:Nat} {v:Value} {R:(Nat→Bool)→Value→World→Prop} (h:ku L T S L' w) (hU:mV (T.map fun p=>(p.1,p.2.1))) (hp:(i,d,R)∈T) (hR:R (dH S i) v w')
 (hst:∀ p∈T,p.1≠i→S p.1=true→∀ v,p.2.2 S v w→p.2.2 (dH S i) v w'):ku L T (dH S i) ((d,v)::L') w':=by
 refine ⟨fun t ht=>?_,fun p hq hs=>?_,fun p hq hs=>?_⟩
 ·rw [cM,if_neg (fun e=>ht _ hp e.symm)];exact h.1 t ht
 ·rw [cM];by_cases e:p.2.1=d
  ·rw [if_pos e,nO hU hq hp (.inr e)];exact hR
  ·rw [if_neg e];have e2:p.1≠i:=fun e2=>e (congrArg (·.2.1) (nO hU hq hp (.inl e2)))
   have hs':=jr e2 hs;exact hst p hq e2 hs' _ (h.2.1 p hq hs')
 ·have hs':=dY hs;have e2:p.1≠i:=fun e2=>by rw [e2,dS] at hs;cases hs
  rw [cM,if_neg (fun e=>e2 (congrArg (·.1) (nO hU hq hp (.inr e))))];exact h.2.2 p hq hs'
theorem ku.same {L:List (Nat×Value)} {T:PT} {S:Nat→Bool} {L':List (Nat×Value)} {w w':World} {i:Nat} (h:ku L T S L' w) (hi:∀ p∈T,p.1≠i)
 (hst:∀ p∈T,p.1≠i→S p.1=true→∀ v,p.2.2 S v w→p.2.2 (dH S i) v w'):ku L T (dH S i) L' w':=by
 refine ⟨h.1,fun p hq hs=>?_,fun p hq hs=>h.2.2 p hq (dY hs)⟩;have hs':=jr (hi p hq) hs;exact hst p hq (hi p hq) hs' _ (h.2.1 p hq hs')
def rj (L':List (Nat×Value)):List (Nat×Value)→Prop
 |[]=>True
 |(t,v)::r=>bu L' t=v∧rj L' r
theorem qf {L':List (Nat×Value)}:∀ {M:List (Nat×Value)},rj L' M→∀ t,(M.map Prod.fst).elem t=true→bu M t=bu L' t
 |(k,v)::r,⟨h1,h2⟩,t,ht=>by
  rw [cM];by_cases e:t=k
  ·rw [if_pos e,e,h1]
  ·rw [if_neg e];refine qf h2 t ?_;simpa [e] using ht
section
variable {P:Program} {Q:Exit→Act→World→Prop} {n:Fr} {L L' M:List (Nat×Value)} {w w' w'':World} {l:List Oper} {T:PT} {Mem:(Nat→Bool)→World→Prop} {Mu:List Nat} {S:Nat→Bool} {op:Op} {ty:TypeId} {pos:String} {after:Array Edge} {i d:Nat} {v:Value} {R:(Nat→Bool)→Value→World→Prop}
theorem jS {dst:Option Nat} (hs:dO op=false) (hk:(((⟨dst,op,ty,pos,after,none⟩:Oper).looksAt #[]).all fun t=>(M.map Prod.fst).elem t)=true) (hag:rj L' M):execOp (ev n L') ⟨dst,op,ty,pos,after,none⟩=execOp (ev n M) ⟨dst,op,ty,pos,after,none⟩:=by
 have h:∀ t,((⟨dst,op,ty,pos,after,none⟩:Oper).looksAt #[]).elem t=true→bu M t=bu L' t:=fun t ht=>
  qf hag t (List.all_eq_true.1 hk t (List.elem_iff.1 ht))
 exact (fT (n:=n) (ops:=#[]) (o:=⟨dst,op,ty,pos,after,none⟩) hs h).1.symm
abbrev qg (P:Program) (n:Fr) (L:List (Nat×Value)) (T:PT) (Mem:(Nat→Bool)→World→Prop) (S:Nat→Bool) (i:Nat) (o:Oper) (L':List (Nat×Value)) (w':World):Prop:=gD P n o (fun L2 w2=>ku L T (dH S i) L2 w2∧Mem (dH S i) w2) L' w'
theorem wM (hmo:mw Mu T) (hq:Mu.elem i=false) (hF:ag w' w''):∀ p∈T,p.1≠i→S p.1=true→∀ v,p.2.2 S v w'→p.2.2 (dH S i) v w'':=fun p hp _ _ v h=>rW hmo p hp S i v w' w'' hq hF h
theorem az (M:List (Nat×Value)) (hU:mV (T.map fun p=>(p.1,p.2.1))) (hmo:mw Mu T) (hme:∀ S i w1 w2,Mu.elem i=false→ag w1 w2→Mem S w1→Mem (dH S i) w2) (hI:ku L T S L' w') (hM:Mem S w') (hp:(i,d,R)∈T) (hq:Mu.elem i=false)
 (hs:dO op=false) (hk:(((⟨some d,op,ty,pos,after,none⟩:Oper).looksAt #[]).all fun t=>(M.map Prod.fst).elem t)=true) (hag:rj L' M) (hr:RO P (ev n M) op w' v w'') (hF:ag w' w'') (hR:R (dH S i) v w''):qg P n L T Mem S i ⟨some d,op,ty,pos,after,none⟩ L' w':=
 .inl ⟨d,v,w'',rfl,by rw [jS hs hk hag];exact hr _ _ _ _ _,hI.next hU hp hR (wM hmo hq hF),hme S i _ _ hq hF hM⟩
theorem jY (M:List (Nat×Value)) {f:FuncId} {al:List Operand} {ats:Array TypeId} (hU:mV (T.map fun p=>(p.1,p.2.1))) (hmo:mw Mu T) (hme:∀ S i w1 w2,Mu.elem i=false→ag w1 w2→Mem S w1→Mem (dH S i) w2) (hI:ku L T S L' w') (hM:Mem S w') (hp:(i,d,R)∈T) (hq:Mu.elem i=false)
 (hk:(((⟨some d,.call { callee:=.value (.func f),args:=al.toArray,argTypes:=ats },ty,pos,after,none⟩:Oper).looksAt #[]).all fun t=>(M.map Prod.fst).elem t)=true) (hag:rj L' M) (hf:aQ P f=true) (hc:Rt P f (al.map (ev n M)) w' fun v w''=>ag w' w''∧R (dH S i) v w'') :
 qg P n L T Mem S i ⟨some d,.call { callee:=.value (.func f),args:=al.toArray,argTypes:=ats },ty,pos,after,none⟩ L' w':=
 .inr (.inr ⟨d,f,al.map (ev n M),rfl,by rw [jS rfl hk hag,jR (fun _=>rfl),kE hf],Calls.mono hc fun e w2 ⟨v,he,hF,hR⟩=>⟨v,he,hI.next hU hp hR (wM hmo hq hF),hme S i _ _ hq hF hM⟩⟩)
theorem dV (M:List (Nat×Value)) {f:FuncId} {al:List Operand} {ats:Array TypeId} (hU:mV (T.map fun p=>(p.1,p.2.1))) (hI:ku L T S L' w') (hp:(i,d,R)∈T)
 (hk:(((⟨some d,.call { callee:=.value (.func f),args:=al.toArray,argTypes:=ats },ty,pos,after,none⟩:Oper).looksAt #[]).all fun t=>(M.map Prod.fst).elem t)=true) (hag:rj L' M) (hf:aQ P f=true) (hc:Rt P f (al.map (ev n M)) w' fun v w''=>Mem (dH S i) w''∧R (dH S i) v w''∧ChP i S w' w'' T) :
 qg P n L T Mem S i ⟨some d,.call { callee:=.value (.func f),args:=al.toArray,argTypes:=ats },ty,pos,after,none⟩ L' w':=
 .inr (.inr ⟨d,f,al.map (ev n M),rfl,by rw [jS rfl hk hag,jR (fun _=>rfl),kE hf],Calls.mono hc fun e w2 ⟨v,he,hM,hR,hC⟩=>⟨v,he,hI.next hU hp hR (tP hC),hM⟩⟩)
theorem oq (M:List (Nat×Value)) (hI:ku L T S L' w') (hi:∀ p∈T,p.1≠i)
 (hs:dO op=false) (hk:(((⟨none,op,ty,pos,after,none⟩:Oper).looksAt #[]).all fun t=>(M.map Prod.fst).elem t)=true) (hag:rj L' M) (hr:RS P (ev n M) op w' w'') (hM:Mem (dH S i) w'') (hC:ChP i S w' w'' T):qg P n L T Mem S i ⟨none,op,ty,pos,after,none⟩ L' w':=
 .inr (.inl ⟨w'',rfl,by rw [jS hs hk hag];exact hr _ _ _ _ _,hI.same hi (tP hC),hM⟩)
def yg (S:Nat→Bool) (w:World):PT→(List (Nat×Value)→Prop)→Prop
 |[],K=>K []
 |p::r,K=>∀ v,p.2.2 S v w→yg S w r fun M=>K ((p.2.1,v)::M)
theorem ef {S:Nat→Bool} {w:World} {K:List (Nat×Value)→Prop} (h:K []):yg S w [] K:=h
theorem qP {S:Nat→Bool} {w:World} (ρ:Nat→Value):∀ (l:PT) {K:List (Nat×Value)→Prop},(∀ p∈l,p.2.2 S (ρ p.2.1) w)→yg S w l K→K (l.map fun p=>(p.2.1,ρ p.2.1))
 |[],_,_,h=>h
 |p::r,_,hr,h=>qP ρ r (fun e he=>hr e (List.mem_cons_of_mem _ he)) (h (ρ p.2.1) (hr p (List.mem_cons_self ..)))
theorem p0 (ρ:Nat→Value) (T:PT) (L:List (Nat×Value)) (t:Nat):((∃ p∈T,p.2.1=t)∧bu (T.map (fun p=>(p.2.1,ρ p.2.1))++L) t=ρ t)∨((∀ p∈T,p.2.1≠t)∧bu (T.map (fun p=>(p.2.1,ρ p.2.1))++L) t=bu L t):=by
 induction T with
 |nil=>exact .inr ⟨fun p hp=>by simp at hp,rfl⟩
 |cons q r ih=>
  rw [List.map_cons,List.cons_append,cM];by_cases e:t=q.2.1
  ·rw [if_pos e,←e];exact .inl ⟨⟨q,.head _,e.symm⟩,rfl⟩
  ·rw [if_neg e];rcases ih with ⟨⟨p,hp,h1⟩,h2⟩ | ⟨h1,h2⟩
   ·exact .inl ⟨⟨p,.tail _ hp,h1⟩,h2⟩
   ·refine .inr ⟨fun p hp=>?_,h2⟩;rcases List.mem_cons.1 hp with rfl | hp2
    ·exact fun e2=>e e2.symm
    ·exact h1 p hp2
theorem dv {T:PT} {t:Nat} (h:(T.map fun p=>p.2.1).elem t=false):∀ p∈T,p.2.1≠t:=fun p hp e=>by
 have:t∈T.map fun p=>p.2.1:=List.mem_map.2 ⟨p,hp,e⟩
 rw [List.elem_eq_mem,decide_eq_false_iff_not] at h;exact h this
theorem zV {T:PT} {i:Nat} (h:(T.map fun p=>p.1).elem i=false):∀ p∈T,p.1≠i:=fun p hp e=>by
 have:i∈T.map fun p=>p.1:=List.mem_map.2 ⟨p,hp,e⟩
 rw [List.elem_eq_mem,decide_eq_false_iff_not] at h;exact h this
theorem gD.mono {o:Oper} {I1 I2:List (Nat×Value)→World→Prop} (hi:∀ L2 w2,I1 L2 w2→I2 L2 w2) (h:gD P n o I1 L' w'):gD P n o I2 L' w':=by
 rcases h with ⟨d,v,w2,h1,h2,h3⟩ | ⟨w2,h1,h2,h3⟩ | ⟨d,f,args,h1,h2,h3⟩
 ·exact .inl ⟨d,v,w2,h1,h2,hi _ _ h3⟩
 ·exact .inr (.inl ⟨w2,h1,h2,hi _ _ h3⟩)
 ·exact .inr (.inr ⟨d,f,args,h1,h2,Calls.mono h3 fun e w2 ⟨v,he,h⟩=>⟨v,he,hi _ _ h⟩⟩)
def ik (l:List Oper) (S:Nat→Bool):Prop:=∀ j o,l[j]? =some o→S j=true→∀ e∈o.after,Region.binds .any e=true→S e.on=true
theorem af {j i:Nat} {o:Oper} (hC:ik l S) (ho:l[j]? =some o) (he:(o.after.toList.any fun e=>Region.binds .any e&&Nat.beq e.on i)=true) (hS:S i=false):S j=false:=by
 rcases hj:S j with _ | _
 ·rfl
 ·obtain ⟨e,h1,h2⟩:=List.any_eq_true.1 he;rw [Bool.and_eq_true] at h2;have:=hC j o ho hj e (by simpa using h1) h2.1;rw [Nat.eq_of_beq_eq_true h2.2,hS] at this;cases this
theorem kM {i:Nat} {o:Oper} (hC:ik l S) (ho:l[i]? =some o) (hE:∀ e∈o.after,Region.binds .any e=true→S e.on=true):ik l (dH S i):=fun j o' hj hs e he hb=>by
 have up:∀ k,S k=true→dH S i k=true:=fun k hk=>by
  unfold dH;split
  ·rfl
  ·exact hk
 by_cases hji:j=i
 ·subst hji;rw [ho] at hj;cases hj;exact up _ (hE e he hb)
 ·exact up _ (hC j o' hj (jr hji hs) e he hb)
def qQ (P:Program) (n:Fr) (L:List (Nat×Value)) (T:PT) (Mu:List Nat) (Mem:(Nat→Bool)→World→Prop) (l:List Oper):Nat→List Oper→Prop
 |_,[]=>True
 |i,o::r=>(∀ S L' w',mV (T.map fun p=>(p.1,p.2.1))→mw Mu T→(∀ S i w1 w2,Mu.elem i=false→ag w1 w2→Mem S w1→Mem (dH S i) w2)→ku L T S L' w'→Mem S w'→ik l S→S i=false→iS S o.after.toList→qg P n L T Mem S i o L' w')∧qQ P n L T Mu Mem l (i+1) r
theorem mB {L0:List (Nat×Value)} {l0:List Oper}:∀ {r:List Oper} {k:Nat},qQ P n L0 T Mu Mem l0 k r→mV (T.map fun p=>(p.1,p.2.1))→mw Mu T→(∀ S i w1 w2,Mu.elem i=false→ag w1 w2→Mem S w1→Mem (dH S i) w2)→∀ (i:Nat) (o:Oper),r[i]? =some o→∀ S L' w',ku L0 T S L' w'→Mem S w'→ik l0 S→S (k+i)=false→iS S o.after.toList→qg P n L0 T Mem S (k+i) o L' w'
 |[],_,_,_,_,_,i,o,h=>by simp at h
 |x::r,k,⟨h1,h2⟩,a,b,c,0,o,h=>by
  simp only [List.getElem?_cons_zero,Option.some.injEq] at h;subst h;exact fun S L' w'=>h1 S L' w' a b c
 |x::r,k,⟨h1,h2⟩,a,b,c,i+1,o,h=>by
  have:=mB h2 a b c i o (by simpa using h)
  rwa [show k+1+i=k+(i+1) by omega] at this
theorem fA {id:Nat} (T:PT) (Mu:List Nat) (Mem:(Nat→Bool)→World→Prop) (hm:P.follows .mixedOrders=true) (hwf:oY l=true) (hlt:(T.all fun p=>Nat.blt p.1 l.length)=true) (hU:u_ (T.map fun p=>(p.1,p.2.1))=true) (hmo:mw Mu T) (hme:∀ S i w1 w2,Mu.elem i=false→ag w1 w2→Mem S w1→Mem (dH S i) w2) (h0:Mem (fun _=>false) { w with drawn:=w.drawn+1 })
 (hstep:qQ P n L T Mu Mem l 0 l) (hend:∀ w',Mem (fun i=>decide (i<l.length)) w'→yg (fun i=>decide (i<l.length)) w' T fun M=>Q .normal (mkA n (M++L)) w'):Cd P (.region id l.toArray true) Q n L w:=
 tQ (fun S L' w'=>ku L T S L' w'∧Mem S w'∧ik l S) hm hwf ⟨⟨fun _ _=>rfl,fun _ _ h=>(by cases h),fun _ _ _=>rfl⟩,h0,fun _ _ _ h=>by cases h⟩ (fun i o S L' w' ho ⟨hI,hM,hC⟩ hS hE=>by
  have:=mB hstep (lT hU) hmo hme i o ho S L' w' hI hM hC (by rw [Nat.zero_add];exact hS) (kK fun e he=>hE e (by simpa using he));rw [Nat.zero_add] at this;exact gD.mono (fun L2 w2 h=>⟨h.1,h.2,kM hC ho hE⟩) this) fun L' w' ⟨hI,hM,_⟩=>by
  have hlt':∀ p∈T,p.1<l.length:=fun p hp=>by
   have:=List.all_eq_true.1 hlt p hp;exact Nat.le_of_ble_eq_true this
  have h:=qP (bu L') T (fun p hp=>hI.2.1 p hp (decide_eq_true (hlt' p hp))) (hend w' hM)
  have e:mkA n L'=mkA n (T.map (fun p=>(p.2.1,bu L' p.2.1))++L):=by
   unfold mkA;rw [jO fun t _=>?_];rcases p0 (bu L') T L t with ⟨_,h2⟩ | ⟨h1,h2⟩
   ·exact h2.symm
   ·rw [h2];exact hI.1 t h1
  rw [e];exact h
end
end Go.Proofs.YtkpooenofjdpmaaGreat
namespace Go.Proofs.YtkpooenofjdpmaaGreat
open Go.Proofs.Tryz (prog)
open Go.RowKit
def GdP (n:Fr) (T:PT) (l0:List Oper):List Oper→Prop
 |[]=>True
 |o::r=>(match o.guard with
  |none=>True
  |some (j,b)=>o.after.toList.any (fun e=>e.on==j&&Region.binds .any e)=true∧∃ t R,(j,t,R)∈T∧j8 l0 j=some t∧Nat.blt t n.n=true∧∀ S v w,R S v w→v=.bool b)∧GdP n T l0 r
section
variable {P:Program} {Q:Exit→Act→World→Prop} {n:Fr} {L:List (Nat×Value)} {w:World} {l:List Oper}
theorem zW {T:PT}:∀ (r:List Oper),GdP n T l r→∀ o∈r,∀ j b,o.guard=some (j,b)→o.after.toList.any (fun e=>e.on==j&&Region.binds .any e)=true∧∃ t R,(j,t,R)∈T∧j8 l j=some t∧Nat.blt t n.n=true∧∀ S v w,R S v w→v=.bool b:=by
 intro r
 induction r with
 |nil=>intro _ o ho;cases ho
 |cons x r ih=>
  intro h o ho j b hg;rcases List.mem_cons.1 ho with e | ho'
  ·subst e;have h1:=h.1;rw [hg] at h1;exact h1
  ·exact ih h.2 o ho' j b hg
theorem s5 {T:PT} {S:Nat→Bool} {L':List (Nat×Value)} {w':World} (hI:ku L T S L' w') {r:List Oper} (hG:GdP n T l r) {o:Oper} (ho:o∈r) (hE:∀ e∈o.after,Region.binds .any e=true→S e.on=true):Region.wanted o (yielded l.toArray (mkT n.n L'))=true:=by
 have hg:=zW r hG o ho;obtain ⟨dst,op,ty,pos,after,g⟩:=o;cases g with
 |none=>rfl
 |some jb=>
  obtain ⟨j,b⟩:=jb;obtain ⟨ha,t,R,hp,hn,hlt,hR⟩:=hg j b rfl;obtain ⟨e,he,he2⟩:=List.any_eq_true.1 ha;simp only [Bool.and_eq_true] at he2;have hej:e.on=j:=by simpa using he2.1
  have hS:S j=true:=by rw [←hej];exact hE e (by simpa using he) he2.2
  obtain ⟨v,hv,hRv⟩:=hI.get hp hS;have hvb:=hR _ _ _ hRv;subst hvb
  have hw:jv l.toArray n L' j=.bool b:=by
   unfold jv;rw [show l.toArray.toList=l from rfl,hn];show (bif Nat.blt t n.n then bu L' t else undef)=_;rw [hlt];exact hv
  show (yielded l.toArray (mkT n.n L') j==some b)=true;rw [gB hw];simp
theorem o1 {id:Nat} (T:PT) (Mu:List Nat) (Mem:(Nat→Bool)→World→Prop) (hm:P.follows .mixedOrders=true) (hwf:tH l=true) (hgd:GdP n T l l) (hlt:(T.all fun p=>Nat.blt p.1 l.length)=true) (hU:u_ (T.map fun p=>(p.1,p.2.1))=true) (hmo:mw Mu T) (hme:∀ S i w1 w2,Mu.elem i=false→ag w1 w2→Mem S w1→Mem (dH S i) w2) (h0:Mem (fun _=>false) { w with drawn:=w.drawn+1 })
 (hstep:qQ P n L T Mu Mem l 0 (l.map ym)) (hend:∀ w',Mem (fun i=>decide (i<l.length)) w'→yg (fun i=>decide (i<l.length)) w' T fun M=>Q .normal (mkA n (M++L)) w'):Cd P (.region id l.toArray true) Q n L w:=
 y_ (fun S L' w'=>ku L T S L' w'∧Mem S w'∧ik l S) hm hwf ⟨⟨fun _ _=>rfl,fun _ _ h=>(by cases h),fun _ _ _=>rfl⟩,h0,fun _ _ _ h=>by cases h⟩ (fun i o S L' w' ho ⟨hI,hM,hC⟩ hS hE=>by
  refine ⟨s5 hI hgd (List.mem_of_getElem? ho) hE,?_⟩;have:=mB hstep (lT hU) hmo hme i (ym o) (by rw [List.getElem?_map,ho];rfl) S L' w' hI hM hC (by rw [Nat.zero_add];exact hS) (kK fun e he=>hE e (by have he':e∈o.after.toList:=he;simpa using he'));rw [Nat.zero_add] at this;exact gD.mono (fun L2 w2 h=>⟨h.1,h.2,kM hC ho hE⟩) (vb this)) fun L' w' ⟨hI,hM,_⟩=>by
  have hlt':∀ p∈T,p.1<l.length:=fun p hp=>by
   have:=List.all_eq_true.1 hlt p hp;exact Nat.le_of_ble_eq_true this
  have h:=qP (bu L') T (fun p hp=>hI.2.1 p hp (decide_eq_true (hlt' p hp))) (hend w' hM)
  have e:mkA n L'=mkA n (T.map (fun p=>(p.2.1,bu L' p.2.1))++L):=by
   unfold mkA;rw [jO fun t _=>?_];rcases p0 (bu L') T L t with ⟨_,h2⟩ | ⟨h1,h2⟩
   ·exact h2.symm
   ·rw [h2];exact hI.1 t h1
  rw [e];exact h
end
end Go.Proofs.YtkpooenofjdpmaaGreat
namespace Go.Proofs.YtkpooenofjdpmaaGreat
open Go.Proofs.Tryz (prog)
open Go.RowKit
open Go.ChangeShapes Go.WideShapes Go.ChangeAt
theorem bj:js prog 39=some true:=by kernel_rfl
theorem aY:ea prog 39=some 13:=by kernel_rfl
theorem ia:kq prog 48=some (39,13,128,(.agg #[.int .i64 0,.int .i64 0,.int .i64 0,.int .i64 0,.int .i64 0,.int .i64 0,.int .i64 0,.int .i64 0,.bool false,.slice none 0 0,.int .i64 0,.string ⟨#[]⟩,.bool false]:Value)):=by kernel_rfl
theorem jk:js prog 48=some false:=by kernel_rfl
theorem aD:cI prog 96 0=some 0:=by kernel_rfl
theorem bH:cI prog 29 3=some 3:=by kernel_rfl
theorem bY:cI prog 39 1=some 1:=by kernel_rfl
theorem ew:cI prog 39 2=some 2:=by kernel_rfl
theorem bI:cI prog 39 3=some 3:=by kernel_rfl
theorem iP:cI prog 96 1=some 22:=by kernel_rfl
theorem pc:ea prog 48=some 1:=by kernel_rfl
theorem vM:prog.underlying 9=some .string:=by kernel_rfl
theorem gd:aQ prog 113=true:=by kernel_rfl
theorem cQ:cI prog 29 13=some 15:=by kernel_rfl
theorem bt:js prog 26=some false:=by kernel_rfl
theorem dd:cI prog 29 15=some 17:=by kernel_rfl
theorem dB:cI prog 29 7=some 9:=by kernel_rfl
theorem bF:js prog 9=some false:=by kernel_rfl
theorem qU:cI prog 24 1=some 1:=by kernel_rfl
theorem dZ:cI prog 29 16=some 18:=by kernel_rfl
theorem gv:∀ (a0:Int) (a1:Int) (a2:Int) (a3:Int) (a4:ByteArray) (a5:Bool),prog.built 39 [(0,.int .i64 5),(4,.int .i64 a0),(5,.int .i64 a1),(10,.int .i64 a3),(11,.string a4),(12,.bool a5),(7,.int .i64 a2)]=some #[.int .i64 5,.int .i64 0,.int .i64 0,.int .i64 0,.int .i64 a0,.int .i64 a1,.int .i64 0,.int .i64 a2,.bool false,.slice none 0 0,.int .i64 a3,.string a4,.bool a5]:=by intros;kernel_rfl
theorem sD:aQ prog 114=true:=by kernel_rfl
theorem ki:aQ prog 83=true:=by kernel_rfl
theorem bW:cI prog 29 8=some 10:=by kernel_rfl
theorem ib:∀ (a0:Int) (a1:Int) (a2:Int) (a3:Int) (a4:Option Addr) (a5 a6:Nat),prog.built 39 [(0,.int .i64 3),(4,.int .i64 a0),(5,.int .i64 a1),(6,.int .i64 a2),(9,.slice a4 a5 a6),(7,.int .i64 a3)]=some #[.int .i64 3,.int .i64 0,.int .i64 0,.int .i64 0,.int .i64 a0,.int .i64 a1,.int .i64 a2,.int .i64 a3,.bool false,.slice a4 a5 a6,.int .i64 0,.string ⟨#[]⟩,.bool false]:=by intros;kernel_rfl
theorem lJ (w0:World) (Z:Nat→Prop) (T g:Nat) (p:Sp) (w:World) (h:aR w0 Z w T g p) (tag:Nat→Nat) (a:Ra) (O:Option Addr) (oc:Nat) (L:List Msg) (hs:gP w Z T g tag p a O oc L) (hl:L.length≤1000) (m:Msg) (to:Int) (hE:w.ownsRow 0 99 3 (.slice m.E m.es.length m.c) m.es.length (dT m.es)∧Col tag (1000+2*L.length) m.E) :
 Rt prog 113 [.pointer (some ⟨g,0,none⟩),.int .i64 to,.agg (bC m).toArray] w (fun v w'=>v=.tuple #[]∧aR w0 Z w' T g (p.tell (pl { m with t:=to }))):=by
 refine enter (n:=32) Tryz.func113 rfl rfl rfl (ao (ah (bZ (v:=.agg _) rfl ?_)));intro b5 w1 E5 hb5 hk5;have hgb:=hs.b.lt;have h5:g≠b5:=by omega
 have hg5:w.heap.size≤b5:=Nat.le_of_eq hb5.symm;have hb0:=hs.b.from_ (ag.rfl_.next E5);refine an (ai (ao ?_));have hU2:ke [(0,6,.pointer (some ⟨g,0,none⟩)),(1,7,.pointer (some ⟨g,0,none⟩)),(2,8,.pointer (some ⟨g,0+0,none⟩)),(3,9,.pointer (some ⟨g,0+0+0,none⟩)),(4,10,.pointer (some ⟨g,0+0+0+0,none⟩)),(5,11,.int .i64 p.s.id),(6,12,.int .i64 to),(7,13,.pointer (some ⟨g,0,none⟩)),(8,14,.pointer (some ⟨g,0,none⟩)),(9,15,.pointer (some ⟨g,0+0,none⟩)),(10,16,.pointer (some ⟨g,0+0+0,none⟩)),(11,17,.pointer (some ⟨g,0+0+0+3,none⟩)),(12,18,.int .i64 p.s.term),(13,19,.pointer (some ⟨b5,0+1,none⟩)),(15,20,.pointer (some ⟨b5,0+2,none⟩)),(17,21,.pointer (some ⟨b5,0+3,none⟩))]:=by simp [ke]
 refine lj [(0,6,.pointer (some ⟨g,0,none⟩)),(1,7,.pointer (some ⟨g,0,none⟩)),(2,8,.pointer (some ⟨g,0+0,none⟩)),(3,9,.pointer (some ⟨g,0+0+0,none⟩)),(4,10,.pointer (some ⟨g,0+0+0+0,none⟩)),(5,11,.int .i64 p.s.id),(6,12,.int .i64 to),(7,13,.pointer (some ⟨g,0,none⟩)),(8,14,.pointer (some ⟨g,0,none⟩)),(9,15,.pointer (some ⟨g,0+0,none⟩)),(10,16,.pointer (some ⟨g,0+0+0,none⟩)),(11,17,.pointer (some ⟨g,0+0+0+3,none⟩)),(12,18,.int .i64 p.s.term),(13,19,.pointer (some ⟨b5,0+1,none⟩)),(15,20,.pointer (some ⟨b5,0+2,none⟩)),(17,21,.pointer (some ⟨b5,0+3,none⟩))] (fun S w'=>Blk w' g T (rfV p.s a++[Value.slice O L.length oc]).toArray∧Blk w' b5 39 #[.int .i64 m.k,.int .i64 (bif S 14 then p.s.id else m.f),.int .i64 (bif S 16 then to else m.t),.int .i64 (bif S 18 then p.s.term else m.tm),.int .i64 m.ix,.int .i64 m.lt,.int .i64 m.cm,.int .i64 m.rd,.bool m.ok,.slice m.E m.es.length m.c,.int .i64 m.a,.string m.d,.bool m.dn]∧ag w w') (by kernel_rfl) (by kernel_rfl) hU2 (by simp) (⟨hb0.from_ ((ag.rfl_).d1),hk5.from_ ((ag.rfl_).d1),((ag.rfl_.next E5)).d1⟩) ?_ ?_
 ·constructor
  ·rintro S L' wS hI hM hS0 ⟨-⟩;have e0:=hI.1 0 (by simp);have hM':=hM;obtain ⟨hgB,hX,hB⟩:=hM';exact bq (aF e0) ⟨hI.put hU2 (.head _),hM⟩
  constructor
  ·rintro S L' wS hI hM hS0 ⟨d0,-⟩;have e6:bu L' 6=.pointer (some ⟨g,0,none⟩):=hI.get (i:=0) (.head _) d0;have hM':=hM;obtain ⟨hgB,hX,hB⟩:=hM';exact bq (av e6) ⟨hI.put hU2 (.tail _ (.head _)),hM⟩
  constructor
  ·rintro S L' wS hI hM hS0 ⟨d1,-⟩;have e7:bu L' 7=.pointer (some ⟨g,0,none⟩):=hI.get (i:=1) (.tail _ (.head _)) d1;have hM':=hM;obtain ⟨hgB,hX,hB⟩:=hM';exact bq (aa aD e7) ⟨hI.put hU2 (gM 2 rfl),hM⟩
  constructor
  ·rintro S L' wS hI hM hS0 ⟨d2,-⟩;have e8:bu L' 8=.pointer (some ⟨g,0+0,none⟩):=hI.get (i:=2) (gM 2 rfl) d2;have hM':=hM;obtain ⟨hgB,hX,hB⟩:=hM';exact bq (aa aB e8) ⟨hI.put hU2 (gM 3 rfl),hM⟩
  constructor
  ·rintro S L' wS hI hM hS0 ⟨d3,-⟩;have e9:bu L' 9=.pointer (some ⟨g,0+0+0,none⟩):=hI.get (i:=3) (gM 3 rfl) d3;have hM':=hM;obtain ⟨hgB,hX,hB⟩:=hM';exact bq (aa cB e9) ⟨hI.put hU2 (gM 4 rfl),hM⟩
  constructor
  ·rintro S L' wS hI hM hS0 ⟨d4,-⟩;have e10:bu L' 10=.pointer (some ⟨g,0+0+0+0,none⟩):=hI.get (i:=4) (gM 4 rfl) d4;have hM':=hM;obtain ⟨hgB,hX,hB⟩:=hM';exact bq (ar ak e10 (by exact dM hgB 0 rfl)) ⟨hI.put hU2 (gM 5 rfl),hM⟩
  constructor
  ·rintro S L' wS hI hM hS0 ⟨-,-⟩;have e1:=hI.1 1 (by simp);have hM':=hM;obtain ⟨hgB,hX,hB⟩:=hM';exact bq (aF e1) ⟨hI.put hU2 (gM 6 rfl),hM⟩
  constructor
  ·rintro S L' wS hI hM hS0 ⟨-,-⟩;have e0:=hI.1 0 (by simp);have hM':=hM;obtain ⟨hgB,hX,hB⟩:=hM';exact bq (aF e0) ⟨hI.put hU2 (gM 7 rfl),hM⟩
  constructor
  ·rintro S L' wS hI hM hS0 ⟨d7,-,-⟩;have e13:bu L' 13=.pointer (some ⟨g,0,none⟩):=hI.get (i:=7) (gM 7 rfl) d7;have hM':=hM;obtain ⟨hgB,hX,hB⟩:=hM';exact bq (av e13) ⟨hI.put hU2 (gM 8 rfl),hM⟩
  constructor
  ·rintro S L' wS hI hM hS0 ⟨d8,-,-⟩;have e14:bu L' 14=.pointer (some ⟨g,0,none⟩):=hI.get (i:=8) (gM 8 rfl) d8;have hM':=hM;obtain ⟨hgB,hX,hB⟩:=hM';exact bq (aa aD e14) ⟨hI.put hU2 (gM 9 rfl),hM⟩
  constructor
  ·rintro S L' wS hI hM hS0 ⟨d9,-,-⟩;have e15:bu L' 15=.pointer (some ⟨g,0+0,none⟩):=hI.get (i:=9) (gM 9 rfl) d9;have hM':=hM;obtain ⟨hgB,hX,hB⟩:=hM';exact bq (aa aB e15) ⟨hI.put hU2 (gM 10 rfl),hM⟩
  constructor
  ·rintro S L' wS hI hM hS0 ⟨d10,-,-⟩;have e16:bu L' 16=.pointer (some ⟨g,0+0+0,none⟩):=hI.get (i:=10) (gM 10 rfl) d10;have hM':=hM;obtain ⟨hgB,hX,hB⟩:=hM';exact bq (aa bH e16) ⟨hI.put hU2 (gM 11 rfl),hM⟩
  constructor
  ·rintro S L' wS hI hM hS0 ⟨d11,-,-⟩;have e17:bu L' 17=.pointer (some ⟨g,0+0+0+3,none⟩):=hI.get (i:=11) (gM 11 rfl) d11;have hM':=hM;obtain ⟨hgB,hX,hB⟩:=hM';exact bq (ar ak e17 (by exact dM hgB 3 rfl)) ⟨hI.put hU2 (gM 12 rfl),hM⟩
  constructor
  ·rintro S L' wS hI hM hS0 ⟨d0,d1,d2,d3,d4,d5,-,-,-,-,-,-,-,-⟩;have e5:=hI.1 5 (by simp);have hM':=hM;obtain ⟨hgB,hX,hB⟩:=hM';exact bq (aa bY e5) ⟨hI.put hU2 (gM 13 rfl),hM⟩
  constructor
  ·rintro S L' wS hI hM hS0 ⟨d13,d5,d0,d1,d2,d3,d4,d5,-,-,-,-,-,-,-,-⟩;have e11:bu L' 11=.int .i64 p.s.id:=hI.get (i:=5) (gM 5 rfl) d5;have e19:bu L' 19=.pointer (some ⟨b5,0+1,none⟩):=hI.get (i:=13) (gM 13 rfl) d13;have hM':=hM;obtain ⟨hgB,hX,hB⟩:=hM';obtain ⟨w2,hR,hO,hb⟩:=gV (n:=32) (L:=L') (x:=.tmp 19) (y:=.tmp 11) bc e19 e11 rfl hX (by simp);exact fI hR ⟨hI.skip (by simp),hgB.only hO h5,hb,hB.only hO hg5⟩
  constructor
  ·rintro S L' wS hI hM hS0 ⟨d0,d1,d2,d3,d4,d5,d6,-,-,-,-,-,-,d13,d14,-⟩;have e5:=hI.1 5 (by simp);have hM':=hM;obtain ⟨hgB,hX,hB⟩:=hM';exact bq (aa ew e5) ⟨hI.put hU2 (gM 14 rfl),hM⟩
  constructor
  ·rintro S L' wS hI hM hS0 ⟨d15,d6,d14,d0,d1,d2,d3,d4,d5,d6,-,-,-,-,-,-,d13,d14,-⟩;have e12:bu L' 12=.int .i64 to:=hI.get (i:=6) (gM 6 rfl) d6;have e20:bu L' 20=.pointer (some ⟨b5,0+2,none⟩):=hI.get (i:=15) (gM 14 rfl) d15;have hM':=hM;obtain ⟨hgB,hX,hB⟩:=hM';obtain ⟨w2,hR,hO,hb⟩:=gV (n:=32) (L:=L') (x:=.tmp 20) (y:=.tmp 12) bc e20 e12 rfl hX (by simp);exact fI hR ⟨hI.skip (by simp),hgB.only hO h5,hb,hB.only hO hg5⟩
  constructor
  ·rintro S L' wS hI hM hS0 ⟨d0,d1,d2,d3,d4,d5,d6,d7,d8,d9,d10,d11,d12,d13,d14,d15,d16,-⟩;have e5:=hI.1 5 (by simp);have hM':=hM;obtain ⟨hgB,hX,hB⟩:=hM';exact bq (aa bI e5) ⟨hI.put hU2 (gM 15 rfl),hM⟩
  constructor
  ·rintro S L' wS hI hM hS0 ⟨d17,d12,d16,d0,d1,d2,d3,d4,d5,d6,d7,d8,d9,d10,d11,d12,d13,d14,d15,d16,-⟩;have e18:bu L' 18=.int .i64 p.s.term:=hI.get (i:=12) (gM 12 rfl) d12;have e21:bu L' 21=.pointer (some ⟨b5,0+3,none⟩):=hI.get (i:=17) (gM 15 rfl) d17;have hM':=hM;obtain ⟨hgB,hX,hB⟩:=hM';obtain ⟨w2,hR,hO,hb⟩:=gV (n:=32) (L:=L') (x:=.tmp 21) (y:=.tmp 18) bc e21 e18 rfl hX (by simp);exact fI hR ⟨hI.skip (by simp),hgB.only hO h5,hb,hB.only hO hg5⟩
  exact trivial
 ·intro w3 hM;obtain ⟨hgB,hX,hB⟩:=hM;have hB1:=hB;replace hX:Blk w3 b5 39 (bC { m with f:=p.s.id,t:=to,tm:=p.s.term }).toArray:=hX;refine ai ?_;apply xX 8 7 [28] [(22,eqp _),(23,eqp _),(24,eqp _),(25,eqp _),(26,eqp (.slice O L.length oc)),(27,eqp (.agg (bC { m with f:=p.s.id,t:=to,tm:=p.s.term }).toArray)),(28,fun v w'=>∃ q,v=.slice (some ⟨q,0,none⟩) 1 1∧Blk w' q 39 (bC { m with f:=p.s.id,t:=to,tm:=p.s.term }).toArray),(29,fun v w'=>∃ A2 c2,v=.slice A2 (L.length+1) c2∧w'.ownsRow 0 39 13 (.slice A2 (L.length+1) c2) (L.length+1) (L.flatMap bC++bC { m with f:=p.s.id,t:=to,tm:=p.s.term })∧(∀ k,A2.map (·.block)=some k→O.map (·.block)=some k∨(w3).heap.size≤k))] (fun w'=>ag w3 w') (fun w'=>(w3).grownBy w' (O.map (·.block))) (by repeat first | exact ct | refine cr ?_ | refine bX ?_) (by kernel_rfl) (by kernel_rfl) (by kernel_rfl) ⟨aj _,aj _,aj _,aj _,aj _,aj _,(fun _ _ _ hF ⟨q,h1,h2⟩=>⟨q,h1,h2.from_ hF⟩),(fun _ _ _ hF ⟨A2,c2,h1,h2,h3⟩=>⟨A2,c2,h1,h2.kept_from hF,h3⟩),trivial⟩ (ag.rfl_.d1) (ag.rfl_.d1.grown _) (fun _ _ hF h=>h.next hF) (fun _ _ hF h=>eQ h (hF.grown _))
  case hop=>
   constructor
   ·rintro-w5 hG5;exact au (aF (v:=.pointer _) rfl) rfl
   constructor
   ·rintro-w6 D6;exact au (aF (v:=.pointer _) rfl) rfl
   constructor
   ·rintro-w7 D7;rintro _ rfl;exact au (av rfl) rfl
   constructor
   ·rintro-w8 D8;rintro _ rfl;exact au (aa iP rfl) rfl
   constructor
   ·rintro-w9 D9;rintro _ rfl;exact au (ar jk rfl (show _=some (Value.slice O L.length oc) from (hgB.from_ D9).rd 22 rfl)) rfl
   constructor
   ·rintro-w10 D10;exact au (aH (cs:=bC { m with f:=p.s.id,t:=to,tm:=p.s.term }) bj aY rfl ((hX.from_ D10).whole)) rfl
   constructor
   ·rintro-w11 D11;rintro v11_27 rfl;exact oK (qu (l:=[(0,.tmp 27)]) (cells:=(bC { m with f:=p.s.id,t:=to,tm:=p.s.term }).toArray) ia rfl rfl (by show Instr.fill _ _ [(0,Value.agg (bC { m with f:=p.s.id,t:=to,tm:=p.s.term }).toArray)]=_;kernel_rfl)) (ag.rfl_.new _) ⟨_,rfl,Blk.new _ _ _⟩
   constructor
   ·intro h;cases h
   exact trivial
  case hmu=>
   rintro w13 D13;rintro v13_26 rfl v13_28 ⟨q13,rfl,hq13⟩;show vP ..;refine oM (news:=bC { m with f:=p.s.id,t:=to,tm:=p.s.term }) ia rfl (by decide) rfl ((hs.m.o.kept_from hB).kept_from D13) (Nat.zero_le _) rfl rfl ⟨_,_,rfl,hq13.whole⟩ (by simp [bC,Value.oneCell']) (by omega) (by omega) ?_;intro A3 c3 w3 ho3 hg3 hl3;exact ⟨eQ (D13.grown _) hg3,⟨A3,c3,rfl,ho3,fun k hk=>(hl3 k hk).imp id fun e=>Nat.le_trans D13.size e⟩,fun t u ht h=>oN (by repeat first | exact trivial | refine ⟨.inl rfl,?_⟩ | refine ⟨.inr (fun _ h=>h),?_⟩) t u ht h⟩
  case hend=>
   rintro w14 hG14;rintro _ rfl _ rfl _ rfl _ rfl v26 rfl v27 rfl v28 _ v29 ⟨A29,c29,rfl,ho29,hL29⟩;show St ..;have hgD:=hG14;have hgC:=hgB.chg (Chg.of_grown (U:=fun k=>tag k=6) hgD (fun k hk=>hs.m.c k hk)) (fun e=>by rw [hs.gc] at e;cases e);refine ab (av rfl) (ab (aa iP rfl) (ej (v:=.slice _ _ _) pc rfl rfl rfl (hgC) (by show _<23;decide) ?_));intro w15 O2 P2;refine an (da (eg rfl (⟨rfl,h.push hs (x:={ m with f:=p.s.id,t:=to,tm:=p.s.term }) hE hB hgD ho29 rfl (fun k hk=>(hL29 k hk).imp id fun e=>Nat.le_trans hB.size e) O2 P2⟩)))
theorem zB (B T i:Int) (A:Option Addr) (n c:Nat) (xs:List Ent) (w:World) (h:cC w (.slice A n c) xs) (hm:cj B T xs=true) (hi:B+1≤i∧i≤dh B xs+1) :
 Rt prog 114 [.agg #[.int .i64 B,.int .i64 T,.slice A n c],.int .i64 i,.int .i64 16] w fun v w'=>(∃ A' c',v=.tuple #[.slice A' ((xs.drop (i-B-1).toNat).take 16).length c',.int .i64 0]∧w'.ownsRow w.heap.size 99 3 (.slice A' ((xs.drop (i-B-1).toNat).take 16).length c') ((xs.drop (i-B-1).toNat).take 16).length (dT ((xs.drop (i-B-1).toNat).take 16)))∧ag w w':=
 (vf B T i 16 (.slice A n c) xs w h (by decide)).mono fun e w' ⟨L,he,hg,hF⟩=>by
  have h0:ow B T xs i 16=0:=by
   unfold ow;rw [if_pos hm,if_pos hi,if_neg (by decide)]
  rw [h0] at he hg;have ho:=hg.2 rfl;obtain ⟨A',c',rfl⟩:=fS ho;exact ⟨_,he,⟨A',c',rfl,ho⟩,hF⟩
theorem tc {P:Program} {ρ:Operand→Value} {w:World} {t:TypeId} {x y z:Operand} {k k':IntKind} {s r:ByteArray} {l h:Nat} (ht:P.underlying t=some .string) (hx:ρ x=.string s) (hy:ρ y=.int k (l:Int)) (hz:ρ z=.int k' (h:Int)) (h1:l≤h) (h2:h≤s.size) (hr:s.extract l h=r):RO P ρ (.slice t x (some y) (some z) none) w (.string r) w:=fun _ _ _ _ _=>by
 subst hr;simp only [execOp,hx,hy,hz,Option.map_none,Option.map_some,Sem.run_bind];rw [run_sliceAt_string w t _ _ _ _ ht,run_slice_string_if w t s k k' (l:Int) (h:Int) ht,if_pos (by omega),if_pos (by omega),Result.andThen_ok,Int.toNat_natCast,Int.toNat_natCast];rfl
theorem ta {s:Rf} {to:Int} (h:at1 s.next to≤s.b) {na:Nat} (ha:at1 s.sent to=(na:Int)):kD s to={ zM with k:=5,t:=to,ix:=s.b,lt:=s.t,rd:=s.round,a:=(na:Int),d:=s.snap.extract na (min (na+1024) s.snap.size),dn:=decide (min (na+1024) s.snap.size=s.snap.size) }:=by
 unfold kD;simp only;rw [if_pos h,ha,Int.toNat_natCast]
theorem vj {s:Rf} {to:Int} (h:¬ at1 s.next to≤s.b):kD s to={ zM with k:=3,t:=to,ix:=at1 s.next to-1,lt:=de s.b s.t s.es (at1 s.next to-1),cm:=s.commit,rd:=s.round,es:=(s.es.drop (at1 s.next to-s.b-1).toNat).take 16 }:=by
 unfold kD;simp only;rw [if_neg h,show at1 s.next to-1-s.b=at1 s.next to-s.b-1 by omega]
theorem x6 {l:List Int} {k:Nat} (h:k<l.length):at1 l ((k:Int)+1)=l[k]:=by
 unfold at1;rw [show ((k:Int)+1-1).toNat=k by omega,List.getD_eq_getElem?_getD,List.getElem?_eq_getElem h];rfl
theorem yv (w0:World) (Z:Nat→Prop) (T g:Nat) (p:Sp) (w:World) (h:aR w0 Z w T g p) (hF:RfF p.s) (hr:p.s.role=2) (hl:p.out.length≤900) (to:Int) (hto:1≤to∧to≤p.s.nodes) :
 Rt prog 78 [.pointer (some ⟨g,0,none⟩),.int .i64 to] w (fun v w'=>v=.tuple #[]∧aR w0 Z w' T g (p.send to)):=by
 obtain ⟨tag,a,O,oc,L,hs⟩:=h.ex;obtain ⟨E,Ec,V,Vc,X,Xc,M,Mc,S,Sc,Q,Qc,LL⟩:=a;have hb:=hs.b;have hll:L.length=p.out.length:=by rw [←hs.m.l,List.length_map]
 obtain ⟨k,rfl⟩:∃ k:Nat,to=(k:Int)+1:=⟨(to-1).toNat,by omega⟩;have hXl:p.s.next.length=p.s.nodes.toNat:=by rw [hF.nx.1,jA hr]
 have hSl:p.s.sent.length=p.s.nodes.toNat:=by rw [hF.se.1,jA hr]
 have hkX:k<p.s.next.length:=by omega
 have hkS:k<p.s.sent.length:=by omega
 have hnx:=hF.nx.2 _ (List.getElem_mem hkX);have hse:=hF.se.2 _ (List.getElem_mem hkS);obtain ⟨gX,rfl⟩:∃ q,X=some ⟨q,0,none⟩:=fR (hs.f.x (by decide)).1 (by omega);have hXo:w.ownsRow 0 3 1 (.slice (some ⟨gX,0,none⟩) p.s.next.length Xc) p.s.next.length (p.s.next.map iV):=(hs.f.x (by decide)).1;have hXc:=jM (l:=p.s.next) hXo k hkX;obtain ⟨gS,rfl⟩:∃ q,S=some ⟨q,0,none⟩:=fR (hs.f.n (by decide)).1 (by omega);have hSo:w.ownsRow 0 3 1 (.slice (some ⟨gS,0,none⟩) p.s.sent.length Sc) p.s.sent.length (p.s.sent.map iV):=(hs.f.n (by decide)).1;have hSc:=jM (l:=p.s.sent) hSo k hkS;obtain ⟨na,hna⟩:∃ na:Nat,p.s.sent[k]=(na:Int):=⟨p.s.sent[k].toNat,by omega⟩;have he:cC w (.slice E p.s.es.length Ec) p.s.es:=hs.f.rd.e;have hzw:=h.zw;have hnn:=hF.n;have hsn:=hF.sn;have hbl:=hF.last;have hlb:dh p.s.b p.s.es=bm p.s:=rfl;have hpn:=x6 hkX;have hpx:=x6 hkS;refine enter (n:=127) Tryz.func78 rfl rfl rfl (ao (ah (mvp rfl (ab (av rfl) (ab (aa aD rfl) (ab (aa aB rfl) (ab (aa cQ rfl) (ab (ar bt rfl (by exact dM (hb.from_ ag.rfl_) 15 rfl)) ?_))))))));refine mvi rfl (ab (eJ rfl rfl (by omega)) (eS (t:=16) (v:=.int _ _) (v':=.int .i64 (k:Nat)) rfl (by exact bT (by omega)) ?_));refine ab (eu cX rfl rfl (by omega)) (ab (ar ak rfl (by exact fy ag.rfl_ hXc)) ?_);refine asi rfl (an (ai (ao (ao (ah (mvi rfl (mvp rfl (ab (av rfl) (ab (aa aD rfl) (ab (aa aB rfl) (ab (aa bn rfl) (ab (aa dE rfl) ?_))))))))))));refine ab (ar ak rfl (by exact dM (hb.from_ ag.rfl_) 6 rfl)) ?_;refine ab (eT rfl rfl) (an (ai (AT rfl (fun Q1=>?_) (fun Q1=>?_))))
 ·refine ao (ah (mvp rfl (ab (av rfl) (ab (aa aD rfl) (ab (aa aB rfl) (ab (aa dd rfl) (ab (ar bt rfl (by exact dM (hb.from_ ag.rfl_) 17 rfl)) ?_)))))));refine mvi rfl (ab (eJ rfl rfl (by omega)) (eS (t:=35) (v:=.int _ _) (v':=.int .i64 (k:Nat)) rfl (by exact bT (by omega)) ?_));refine ab (eu cX rfl rfl (by omega)) (ab (ar ak rfl (by exact fy ag.rfl_ hSc)) ?_);refine eS (t:=37) (v:=.int _ _) (v':=.int .i64 (na:Nat)) rfl (by exact congrArg (Value.int .i64) hna) ?_;refine asi rfl (an (ai (ao (ah (mvi rfl (ab (dD (b:=1024) rfl rfl (by omega)) (mvp rfl (ab (av rfl) (ab (aa aD rfl) (ab (aa aB rfl) (ab (aa dB rfl) ?_)))))))))));refine ab (ar bF rfl (by exact dM (hb.from_ ag.rfl_) 9 rfl)) ?_;refine ab (df (by kernel_rfl) rfl) (ab (j6 rfl rfl) (eS (t:=47) (v:=.int _ _) (v':=.int .i64 ((min (na+1024) p.s.snap.size:Nat):Int)) rfl (by exact bT (by omega)) ?_));refine asi rfl (an (ai (ao ?_)));apply fA [(0,48,fun _ v _=>v=_),(1,49,fun _ v _=>v=_),(2,50,fun _ v _=>v=_),(3,51,fun _ v _=>v=_),(4,52,fun _ v _=>v=_),(5,53,fun _ v _=>v=_),(6,54,fun _ v _=>v=_),(7,55,fun _ v _=>v=_),(8,56,fun _ v _=>v=_),(9,57,fun _ v _=>v=_),(10,58,fun _ v _=>v=_),(11,59,fun _ v _=>v=_),(12,60,fun _ v _=>v=_),(13,61,fun _ v _=>v=_),(14,62,fun _ v _=>v=_),(15,63,fun _ v _=>v=_),(16,64,fun _ v _=>v=_),(17,65,fun _ v _=>v=_),(18,66,fun _ v _=>v=_),(19,67,fun _ v _=>v=_),(20,68,fun _ v _=>v=_),(21,69,fun _ v _=>v=_),(22,70,fun _ v _=>v=_),(23,71,fun _ v _=>v=_),(24,72,fun _ v _=>v=_),(25,73,fun _ v _=>v=_),(26,74,fun _ v _=>v=_),(27,75,fun _ v _=>v=_),(28,76,fun _ v _=>v=_),(29,77,fun _ v _=>v=_),(30,78,fun _ v _=>v=_),(31,79,fun _ v _=>v=_),(32,80,fun _ v _=>v=_),(33,81,fun _ v _=>v=_),(34,82,fun _ v _=>v=_),(35,83,fun _ v _=>v=_),(36,84,fun _ v _=>v=_),(37,85,fun _ v _=>v=_),(38,86,fun _ v _=>v=_),(39,87,fun _ v _=>v=_),(40,88,fun _ v _=>v=_),(41,89,fun _ v _=>v=_),(42,90,fun _ v _=>v=_)] [42] (fun S w'=>(S 42=false→ag w w')∧(S 42=true→aR w0 Z w' T g (p.tell (pl { ({ zM with k:=5,ix:=p.s.b,lt:=p.s.t,rd:=p.s.round,a:=(na:Int),d:=p.s.snap.extract na (min (na+1024) p.s.snap.size),dn:=decide (min (na+1024) p.s.snap.size=p.s.snap.size) }:Msg) with t:=(k:Int)+1 })))) (by kernel_rfl) (by kernel_rfl) rfl rfl ⟨fun _ _ _ _ _ _ _ h=>h,fun _ _ _ _ _ _ _ h=>h,fun _ _ _ _ _ _ _ h=>h,fun _ _ _ _ _ _ _ h=>h,fun _ _ _ _ _ _ _ h=>h,fun _ _ _ _ _ _ _ h=>h,fun _ _ _ _ _ _ _ h=>h,fun _ _ _ _ _ _ _ h=>h,fun _ _ _ _ _ _ _ h=>h,fun _ _ _ _ _ _ _ h=>h,fun _ _ _ _ _ _ _ h=>h,fun _ _ _ _ _ _ _ h=>h,fun _ _ _ _ _ _ _ h=>h,fun _ _ _ _ _ _ _ h=>h,fun _ _ _ _ _ _ _ h=>h,fun _ _ _ _ _ _ _ h=>h,fun _ _ _ _ _ _ _ h=>h,fun _ _ _ _ _ _ _ h=>h,fun _ _ _ _ _ _ _ h=>h,fun _ _ _ _ _ _ _ h=>h,fun _ _ _ _ _ _ _ h=>h,fun _ _ _ _ _ _ _ h=>h,fun _ _ _ _ _ _ _ h=>h,fun _ _ _ _ _ _ _ h=>h,fun _ _ _ _ _ _ _ h=>h,fun _ _ _ _ _ _ _ h=>h,fun _ _ _ _ _ _ _ h=>h,fun _ _ _ _ _ _ _ h=>h,fun _ _ _ _ _ _ _ h=>h,fun _ _ _ _ _ _ _ h=>h,fun _ _ _ _ _ _ _ h=>h,fun _ _ _ _ _ _ _ h=>h,fun _ _ _ _ _ _ _ h=>h,fun _ _ _ _ _ _ _ h=>h,fun _ _ _ _ _ _ _ h=>h,fun _ _ _ _ _ _ _ h=>h,fun _ _ _ _ _ _ _ h=>h,fun _ _ _ _ _ _ _ h=>h,fun _ _ _ _ _ _ _ h=>h,fun _ _ _ _ _ _ _ h=>h,fun _ _ _ _ _ _ _ h=>h,fun _ _ _ _ _ _ _ h=>h,fun _ _ _ _ _ _ _ h=>h,trivial⟩ (fun S i w1 w2 hq hF h=>⟨fun h0=>(h.1 (dY h0)).next hF,fun h1=>(fun h=>h.from_ hF) (h.2 (jr (show 42≠i by rintro rfl;exact absurd hq (by decide)) h1))⟩) ⟨fun _=>ag.rfl_.d1,fun h=>by cases h⟩
  case hstep=>
   constructor
   ·rintro S L' w2 hU hmo hme hI hM hC hS ⟨-⟩;have hS0:S 42=false:=(af hC (j:=42) rfl (by kernel_rfl) hS);have hM2:=hM.1 hS0;have e0:=hI.1 0 (dv rfl);exact az [(0,_)] hU hmo hme hI hM (.head _) rfl rfl (by kernel_rfl) ⟨e0,trivial⟩ (aF (v:=.pointer _) rfl) ag.rfl_ (rfl)
   constructor
   ·rintro S L' w3 hU hmo hme hI hM hC hS ⟨-⟩;have hS0:S 42=false:=(af hC (j:=42) rfl (by kernel_rfl) hS);have hM3:=hM.1 hS0;have e1:=hI.1 1 (dv rfl);exact az [(1,_)] hU hmo hme hI hM (.tail _ (.head _)) rfl rfl (by kernel_rfl) ⟨e1,trivial⟩ (aF (v:=.int _ _) rfl) ag.rfl_ (rfl)
   constructor
   ·rintro S L' w4 hU hmo hme hI hM hC hS ⟨-⟩;have hS0:S 42=false:=(af hC (j:=42) rfl (by kernel_rfl) (af hC (j:=41) rfl (by kernel_rfl) (af hC (j:=8) rfl (by kernel_rfl) (af hC (j:=7) rfl (by kernel_rfl) (af hC (j:=6) rfl (by kernel_rfl) (af hC (j:=5) rfl (by kernel_rfl) (af hC (j:=4) rfl (by kernel_rfl) (af hC (j:=3) rfl (by kernel_rfl) hS))))))));have hM4:=hM.1 hS0;have e0:=hI.1 0 (dv rfl);exact az [(0,_)] hU hmo hme hI hM (gM 2 rfl) rfl rfl (by kernel_rfl) ⟨e0,trivial⟩ (aF (v:=.pointer _) rfl) ag.rfl_ (rfl)
   constructor
   ·rintro S L' w5 hU hmo hme hI hM hC hS ⟨d2,-⟩;have hS0:S 42=false:=(af hC (j:=42) rfl (by kernel_rfl) (af hC (j:=41) rfl (by kernel_rfl) (af hC (j:=8) rfl (by kernel_rfl) (af hC (j:=7) rfl (by kernel_rfl) (af hC (j:=6) rfl (by kernel_rfl) (af hC (j:=5) rfl (by kernel_rfl) (af hC (j:=4) rfl (by kernel_rfl) hS)))))));have hM5:=hM.1 hS0;obtain ⟨v5_50,e50,h50⟩:=hI.get (i:=2) (gM 2 rfl) d2;obtain rfl:=h50;exact az [(50,_)] hU hmo hme hI hM (gM 3 rfl) rfl rfl (by kernel_rfl) ⟨e50,trivial⟩ (av rfl) ag.rfl_ (rfl)
   constructor
   ·rintro S L' w6 hU hmo hme hI hM hC hS ⟨d3,-⟩;have hS0:S 42=false:=(af hC (j:=42) rfl (by kernel_rfl) (af hC (j:=41) rfl (by kernel_rfl) (af hC (j:=8) rfl (by kernel_rfl) (af hC (j:=7) rfl (by kernel_rfl) (af hC (j:=6) rfl (by kernel_rfl) (af hC (j:=5) rfl (by kernel_rfl) hS))))));have hM6:=hM.1 hS0;obtain ⟨v6_51,e51,h51⟩:=hI.get (i:=3) (gM 3 rfl) d3;obtain rfl:=h51;exact az [(51,_)] hU hmo hme hI hM (gM 4 rfl) rfl rfl (by kernel_rfl) ⟨e51,trivial⟩ (aa aD rfl) ag.rfl_ (rfl)
   constructor
   ·rintro S L' w7 hU hmo hme hI hM hC hS ⟨d4,-⟩;have hS0:S 42=false:=(af hC (j:=42) rfl (by kernel_rfl) (af hC (j:=41) rfl (by kernel_rfl) (af hC (j:=8) rfl (by kernel_rfl) (af hC (j:=7) rfl (by kernel_rfl) (af hC (j:=6) rfl (by kernel_rfl) hS)))));have hM7:=hM.1 hS0;obtain ⟨v7_52,e52,h52⟩:=hI.get (i:=4) (gM 4 rfl) d4;obtain rfl:=h52;exact az [(52,_)] hU hmo hme hI hM (gM 5 rfl) rfl rfl (by kernel_rfl) ⟨e52,trivial⟩ (aa aB rfl) ag.rfl_ (rfl)
   constructor
   ·rintro S L' w8 hU hmo hme hI hM hC hS ⟨d5,-⟩;have hS0:S 42=false:=(af hC (j:=42) rfl (by kernel_rfl) (af hC (j:=41) rfl (by kernel_rfl) (af hC (j:=8) rfl (by kernel_rfl) (af hC (j:=7) rfl (by kernel_rfl) hS))));have hM8:=hM.1 hS0;obtain ⟨v8_53,e53,h53⟩:=hI.get (i:=5) (gM 5 rfl) d5;obtain rfl:=h53;exact az [(53,_)] hU hmo hme hI hM (gM 6 rfl) rfl rfl (by kernel_rfl) ⟨e53,trivial⟩ (aa bn rfl) ag.rfl_ (rfl)
   constructor
   ·rintro S L' w9 hU hmo hme hI hM hC hS ⟨d6,-⟩;have hS0:S 42=false:=(af hC (j:=42) rfl (by kernel_rfl) (af hC (j:=41) rfl (by kernel_rfl) (af hC (j:=8) rfl (by kernel_rfl) hS)));have hM9:=hM.1 hS0;obtain ⟨v9_54,e54,h54⟩:=hI.get (i:=6) (gM 6 rfl) d6;obtain rfl:=h54;exact az [(54,_)] hU hmo hme hI hM (gM 7 rfl) rfl rfl (by kernel_rfl) ⟨e54,trivial⟩ (aa dE rfl) ag.rfl_ (rfl)
   constructor
   ·rintro S L' w10 hU hmo hme hI hM hC hS ⟨d7,-⟩;have hS0:S 42=false:=(af hC (j:=42) rfl (by kernel_rfl) (af hC (j:=41) rfl (by kernel_rfl) hS));have hM10:=hM.1 hS0;obtain ⟨v10_55,e55,h55⟩:=hI.get (i:=7) (gM 7 rfl) d7;obtain rfl:=h55;exact az [(55,_)] hU hmo hme hI hM (gM 8 rfl) rfl rfl (by kernel_rfl) ⟨e55,trivial⟩ (ar ak rfl (by exact dM (hb.from_ (ag.rfl_.next hM10)) 6 rfl)) ag.rfl_ (rfl)
   constructor
   ·rintro S L' w11 hU hmo hme hI hM hC hS ⟨-⟩;have hS0:S 42=false:=(af hC (j:=42) rfl (by kernel_rfl) (af hC (j:=41) rfl (by kernel_rfl) (af hC (j:=15) rfl (by kernel_rfl) (af hC (j:=14) rfl (by kernel_rfl) (af hC (j:=13) rfl (by kernel_rfl) (af hC (j:=12) rfl (by kernel_rfl) (af hC (j:=11) rfl (by kernel_rfl) (af hC (j:=10) rfl (by kernel_rfl) hS))))))));have hM11:=hM.1 hS0;have e0:=hI.1 0 (dv rfl);exact az [(0,_)] hU hmo hme hI hM (gM 9 rfl) rfl rfl (by kernel_rfl) ⟨e0,trivial⟩ (aF (v:=.pointer _) rfl) ag.rfl_ (rfl)
   constructor
   ·rintro S L' w12 hU hmo hme hI hM hC hS ⟨d9,-⟩;have hS0:S 42=false:=(af hC (j:=42) rfl (by kernel_rfl) (af hC (j:=41) rfl (by kernel_rfl) (af hC (j:=15) rfl (by kernel_rfl) (af hC (j:=14) rfl (by kernel_rfl) (af hC (j:=13) rfl (by kernel_rfl) (af hC (j:=12) rfl (by kernel_rfl) (af hC (j:=11) rfl (by kernel_rfl) hS)))))));have hM12:=hM.1 hS0;obtain ⟨v12_57,e57,h57⟩:=hI.get (i:=9) (gM 9 rfl) d9;obtain rfl:=h57;exact az [(57,_)] hU hmo hme hI hM (gM 10 rfl) rfl rfl (by kernel_rfl) ⟨e57,trivial⟩ (av rfl) ag.rfl_ (rfl)
   constructor
   ·rintro S L' w13 hU hmo hme hI hM hC hS ⟨d10,-⟩;have hS0:S 42=false:=(af hC (j:=42) rfl (by kernel_rfl) (af hC (j:=41) rfl (by kernel_rfl) (af hC (j:=15) rfl (by kernel_rfl) (af hC (j:=14) rfl (by kernel_rfl) (af hC (j:=13) rfl (by kernel_rfl) (af hC (j:=12) rfl (by kernel_rfl) hS))))));have hM13:=hM.1 hS0;obtain ⟨v13_58,e58,h58⟩:=hI.get (i:=10) (gM 10 rfl) d10;obtain rfl:=h58;exact az [(58,_)] hU hmo hme hI hM (gM 11 rfl) rfl rfl (by kernel_rfl) ⟨e58,trivial⟩ (aa aD rfl) ag.rfl_ (rfl)
   constructor
   ·rintro S L' w14 hU hmo hme hI hM hC hS ⟨d11,-⟩;have hS0:S 42=false:=(af hC (j:=42) rfl (by kernel_rfl) (af hC (j:=41) rfl (by kernel_rfl) (af hC (j:=15) rfl (by kernel_rfl) (af hC (j:=14) rfl (by kernel_rfl) (af hC (j:=13) rfl (by kernel_rfl) hS)))));have hM14:=hM.1 hS0;obtain ⟨v14_59,e59,h59⟩:=hI.get (i:=11) (gM 11 rfl) d11;obtain rfl:=h59;exact az [(59,_)] hU hmo hme hI hM (gM 12 rfl) rfl rfl (by kernel_rfl) ⟨e59,trivial⟩ (aa aB rfl) ag.rfl_ (rfl)
   constructor
   ·rintro S L' w15 hU hmo hme hI hM hC hS ⟨d12,-⟩;have hS0:S 42=false:=(af hC (j:=42) rfl (by kernel_rfl) (af hC (j:=41) rfl (by kernel_rfl) (af hC (j:=15) rfl (by kernel_rfl) (af hC (j:=14) rfl (by kernel_rfl) hS))));have hM15:=hM.1 hS0;obtain ⟨v15_60,e60,h60⟩:=hI.get (i:=12) (gM 12 rfl) d12;obtain rfl:=h60;exact az [(60,_)] hU hmo hme hI hM (gM 13 rfl) rfl rfl (by kernel_rfl) ⟨e60,trivial⟩ (aa bn rfl) ag.rfl_ (rfl)
   constructor
   ·rintro S L' w16 hU hmo hme hI hM hC hS ⟨d13,-⟩;have hS0:S 42=false:=(af hC (j:=42) rfl (by kernel_rfl) (af hC (j:=41) rfl (by kernel_rfl) (af hC (j:=15) rfl (by kernel_rfl) hS)));have hM16:=hM.1 hS0;obtain ⟨v16_61,e61,h61⟩:=hI.get (i:=13) (gM 13 rfl) d13;obtain rfl:=h61;exact az [(61,_)] hU hmo hme hI hM (gM 14 rfl) rfl rfl (by kernel_rfl) ⟨e61,trivial⟩ (aa qU rfl) ag.rfl_ (rfl)
   constructor
   ·rintro S L' w17 hU hmo hme hI hM hC hS ⟨d14,-⟩;have hS0:S 42=false:=(af hC (j:=42) rfl (by kernel_rfl) (af hC (j:=41) rfl (by kernel_rfl) hS));have hM17:=hM.1 hS0;obtain ⟨v17_62,e62,h62⟩:=hI.get (i:=14) (gM 14 rfl) d14;obtain rfl:=h62;exact az [(62,_)] hU hmo hme hI hM (gM 15 rfl) rfl rfl (by kernel_rfl) ⟨e62,trivial⟩ (ar ak rfl (by exact dM (hb.from_ (ag.rfl_.next hM17)) 7 rfl)) ag.rfl_ (rfl)
   constructor
   ·rintro S L' w18 hU hmo hme hI hM hC hS ⟨-⟩;have hS0:S 42=false:=(af hC (j:=42) rfl (by kernel_rfl) (af hC (j:=41) rfl (by kernel_rfl) hS));have hM18:=hM.1 hS0;have e5:=hI.1 5 (dv rfl);exact az [(5,_)] hU hmo hme hI hM (gM 16 rfl) rfl rfl (by kernel_rfl) ⟨e5,trivial⟩ (aF (v:=.int _ _) rfl) ag.rfl_ (rfl)
   constructor
   ·rintro S L' w19 hU hmo hme hI hM hC hS ⟨-⟩;have hS0:S 42=false:=(af hC (j:=42) rfl (by kernel_rfl) (af hC (j:=41) rfl (by kernel_rfl) (af hC (j:=25) rfl (by kernel_rfl) (af hC (j:=22) rfl (by kernel_rfl) (af hC (j:=21) rfl (by kernel_rfl) (af hC (j:=20) rfl (by kernel_rfl) (af hC (j:=19) rfl (by kernel_rfl) (af hC (j:=18) rfl (by kernel_rfl) hS))))))));have hM19:=hM.1 hS0;have e0:=hI.1 0 (dv rfl);exact az [(0,_)] hU hmo hme hI hM (gM 17 rfl) rfl rfl (by kernel_rfl) ⟨e0,trivial⟩ (aF (v:=.pointer _) rfl) ag.rfl_ (rfl)
   constructor
   ·rintro S L' w20 hU hmo hme hI hM hC hS ⟨d17,-⟩;have hS0:S 42=false:=(af hC (j:=42) rfl (by kernel_rfl) (af hC (j:=41) rfl (by kernel_rfl) (af hC (j:=25) rfl (by kernel_rfl) (af hC (j:=22) rfl (by kernel_rfl) (af hC (j:=21) rfl (by kernel_rfl) (af hC (j:=20) rfl (by kernel_rfl) (af hC (j:=19) rfl (by kernel_rfl) hS)))))));have hM20:=hM.1 hS0;obtain ⟨v20_65,e65,h65⟩:=hI.get (i:=17) (gM 17 rfl) d17;obtain rfl:=h65;exact az [(65,_)] hU hmo hme hI hM (gM 18 rfl) rfl rfl (by kernel_rfl) ⟨e65,trivial⟩ (av rfl) ag.rfl_ (rfl)
   constructor
   ·rintro S L' w21 hU hmo hme hI hM hC hS ⟨d18,-⟩;have hS0:S 42=false:=(af hC (j:=42) rfl (by kernel_rfl) (af hC (j:=41) rfl (by kernel_rfl) (af hC (j:=25) rfl (by kernel_rfl) (af hC (j:=22) rfl (by kernel_rfl) (af hC (j:=21) rfl (by kernel_rfl) (af hC (j:=20) rfl (by kernel_rfl) hS))))));have hM21:=hM.1 hS0;obtain ⟨v21_66,e66,h66⟩:=hI.get (i:=18) (gM 18 rfl) d18;obtain rfl:=h66;exact az [(66,_)] hU hmo hme hI hM (gM 19 rfl) rfl rfl (by kernel_rfl) ⟨e66,trivial⟩ (aa aD rfl) ag.rfl_ (rfl)
   constructor
   ·rintro S L' w22 hU hmo hme hI hM hC hS ⟨d19,-⟩;have hS0:S 42=false:=(af hC (j:=42) rfl (by kernel_rfl) (af hC (j:=41) rfl (by kernel_rfl) (af hC (j:=25) rfl (by kernel_rfl) (af hC (j:=22) rfl (by kernel_rfl) (af hC (j:=21) rfl (by kernel_rfl) hS)))));have hM22:=hM.1 hS0;obtain ⟨v22_67,e67,h67⟩:=hI.get (i:=19) (gM 19 rfl) d19;obtain rfl:=h67;exact az [(67,_)] hU hmo hme hI hM (gM 20 rfl) rfl rfl (by kernel_rfl) ⟨e67,trivial⟩ (aa aB rfl) ag.rfl_ (rfl)
   constructor
   ·rintro S L' w23 hU hmo hme hI hM hC hS ⟨d20,-⟩;have hS0:S 42=false:=(af hC (j:=42) rfl (by kernel_rfl) (af hC (j:=41) rfl (by kernel_rfl) (af hC (j:=25) rfl (by kernel_rfl) (af hC (j:=22) rfl (by kernel_rfl) hS))));have hM23:=hM.1 hS0;obtain ⟨v23_68,e68,h68⟩:=hI.get (i:=20) (gM 20 rfl) d20;obtain rfl:=h68;exact az [(68,_)] hU hmo hme hI hM (gM 21 rfl) rfl rfl (by kernel_rfl) ⟨e68,trivial⟩ (aa dB rfl) ag.rfl_ (rfl)
   constructor
   ·rintro S L' w24 hU hmo hme hI hM hC hS ⟨d21,-⟩;have hS0:S 42=false:=(af hC (j:=42) rfl (by kernel_rfl) (af hC (j:=41) rfl (by kernel_rfl) (af hC (j:=25) rfl (by kernel_rfl) hS)));have hM24:=hM.1 hS0;obtain ⟨v24_69,e69,h69⟩:=hI.get (i:=21) (gM 21 rfl) d21;obtain rfl:=h69;exact az [(69,_)] hU hmo hme hI hM (gM 22 rfl) rfl rfl (by kernel_rfl) ⟨e69,trivial⟩ (ar bF rfl (by exact dM (hb.from_ (ag.rfl_.next hM24)) 9 rfl)) ag.rfl_ (rfl)
   constructor
   ·rintro S L' w25 hU hmo hme hI hM hC hS ⟨-⟩;have hS0:S 42=false:=(af hC (j:=42) rfl (by kernel_rfl) (af hC (j:=41) rfl (by kernel_rfl) (af hC (j:=25) rfl (by kernel_rfl) hS)));have hM25:=hM.1 hS0;have e5:=hI.1 5 (dv rfl);exact az [(5,_)] hU hmo hme hI hM (gM 23 rfl) rfl rfl (by kernel_rfl) ⟨e5,trivial⟩ (aF (v:=.int _ _) rfl) ag.rfl_ (rfl)
   constructor
   ·rintro S L' w26 hU hmo hme hI hM hC hS ⟨-⟩;have hS0:S 42=false:=(af hC (j:=42) rfl (by kernel_rfl) (af hC (j:=41) rfl (by kernel_rfl) (af hC (j:=25) rfl (by kernel_rfl) hS)));have hM26:=hM.1 hS0;have e6:=hI.1 6 (dv rfl);exact az [(6,_)] hU hmo hme hI hM (gM 24 rfl) rfl rfl (by kernel_rfl) ⟨e6,trivial⟩ (aF (v:=.int _ _) rfl) ag.rfl_ (rfl)
   constructor
   ·rintro S L' w27 hU hmo hme hI hM hC hS ⟨d22,d23,d24,-⟩;have hS0:S 42=false:=(af hC (j:=42) rfl (by kernel_rfl) (af hC (j:=41) rfl (by kernel_rfl) hS));have hM27:=hM.1 hS0;obtain ⟨v27_70,e70,h70⟩:=hI.get (i:=22) (gM 22 rfl) d22;obtain rfl:=h70;obtain ⟨v27_71,e71,h71⟩:=hI.get (i:=23) (gM 23 rfl) d23;obtain rfl:=h71;obtain ⟨v27_72,e72,h72⟩:=hI.get (i:=24) (gM 24 rfl) d24;obtain rfl:=h72;exact az [(70,_),(71,_),(72,_)] hU hmo hme hI hM (gM 25 rfl) rfl rfl (by kernel_rfl) ⟨e70,e71,e72,trivial⟩ ((tc (l:=na) (h:=min (na+1024) p.s.snap.size) vM rfl rfl rfl (by omega) (by omega) rfl)) (ag.rfl_) (rfl)
   constructor
   ·rintro S L' w28 hU hmo hme hI hM hC hS ⟨-⟩;have hS0:S 42=false:=(af hC (j:=42) rfl (by kernel_rfl) (af hC (j:=41) rfl (by kernel_rfl) (af hC (j:=34) rfl (by kernel_rfl) hS)));have hM28:=hM.1 hS0;have e6:=hI.1 6 (dv rfl);exact az [(6,_)] hU hmo hme hI hM (gM 26 rfl) rfl rfl (by kernel_rfl) ⟨e6,trivial⟩ (aF (v:=.int _ _) rfl) ag.rfl_ (rfl)
   constructor
   ·rintro S L' w29 hU hmo hme hI hM hC hS ⟨-⟩;have hS0:S 42=false:=(af hC (j:=42) rfl (by kernel_rfl) (af hC (j:=41) rfl (by kernel_rfl) (af hC (j:=34) rfl (by kernel_rfl) (af hC (j:=33) rfl (by kernel_rfl) (af hC (j:=32) rfl (by kernel_rfl) (af hC (j:=31) rfl (by kernel_rfl) (af hC (j:=30) rfl (by kernel_rfl) (af hC (j:=29) rfl (by kernel_rfl) (af hC (j:=28) rfl (by kernel_rfl) hS)))))))));have hM29:=hM.1 hS0;have e0:=hI.1 0 (dv rfl);exact az [(0,_)] hU hmo hme hI hM (gM 27 rfl) rfl rfl (by kernel_rfl) ⟨e0,trivial⟩ (aF (v:=.pointer _) rfl) ag.rfl_ (rfl)
   constructor
   ·rintro S L' w30 hU hmo hme hI hM hC hS ⟨d27,-⟩;have hS0:S 42=false:=(af hC (j:=42) rfl (by kernel_rfl) (af hC (j:=41) rfl (by kernel_rfl) (af hC (j:=34) rfl (by kernel_rfl) (af hC (j:=33) rfl (by kernel_rfl) (af hC (j:=32) rfl (by kernel_rfl) (af hC (j:=31) rfl (by kernel_rfl) (af hC (j:=30) rfl (by kernel_rfl) (af hC (j:=29) rfl (by kernel_rfl) hS))))))));have hM30:=hM.1 hS0;obtain ⟨v30_75,e75,h75⟩:=hI.get (i:=27) (gM 27 rfl) d27;obtain rfl:=h75;exact az [(75,_)] hU hmo hme hI hM (gM 28 rfl) rfl rfl (by kernel_rfl) ⟨e75,trivial⟩ (av rfl) ag.rfl_ (rfl)
   constructor
   ·rintro S L' w31 hU hmo hme hI hM hC hS ⟨d28,-⟩;have hS0:S 42=false:=(af hC (j:=42) rfl (by kernel_rfl) (af hC (j:=41) rfl (by kernel_rfl) (af hC (j:=34) rfl (by kernel_rfl) (af hC (j:=33) rfl (by kernel_rfl) (af hC (j:=32) rfl (by kernel_rfl) (af hC (j:=31) rfl (by kernel_rfl) (af hC (j:=30) rfl (by kernel_rfl) hS)))))));have hM31:=hM.1 hS0;obtain ⟨v31_76,e76,h76⟩:=hI.get (i:=28) (gM 28 rfl) d28;obtain rfl:=h76;exact az [(76,_)] hU hmo hme hI hM (gM 29 rfl) rfl rfl (by kernel_rfl) ⟨e76,trivial⟩ (aa aD rfl) ag.rfl_ (rfl)
   constructor
   ·rintro S L' w32 hU hmo hme hI hM hC hS ⟨d29,-⟩;have hS0:S 42=false:=(af hC (j:=42) rfl (by kernel_rfl) (af hC (j:=41) rfl (by kernel_rfl) (af hC (j:=34) rfl (by kernel_rfl) (af hC (j:=33) rfl (by kernel_rfl) (af hC (j:=32) rfl (by kernel_rfl) (af hC (j:=31) rfl (by kernel_rfl) hS))))));have hM32:=hM.1 hS0;obtain ⟨v32_77,e77,h77⟩:=hI.get (i:=29) (gM 29 rfl) d29;obtain rfl:=h77;exact az [(77,_)] hU hmo hme hI hM (gM 30 rfl) rfl rfl (by kernel_rfl) ⟨e77,trivial⟩ (aa aB rfl) ag.rfl_ (rfl)
   constructor
   ·rintro S L' w33 hU hmo hme hI hM hC hS ⟨d30,-⟩;have hS0:S 42=false:=(af hC (j:=42) rfl (by kernel_rfl) (af hC (j:=41) rfl (by kernel_rfl) (af hC (j:=34) rfl (by kernel_rfl) (af hC (j:=33) rfl (by kernel_rfl) (af hC (j:=32) rfl (by kernel_rfl) hS)))));have hM33:=hM.1 hS0;obtain ⟨v33_78,e78,h78⟩:=hI.get (i:=30) (gM 30 rfl) d30;obtain rfl:=h78;exact az [(78,_)] hU hmo hme hI hM (gM 31 rfl) rfl rfl (by kernel_rfl) ⟨e78,trivial⟩ (aa dB rfl) ag.rfl_ (rfl)
   constructor
   ·rintro S L' w34 hU hmo hme hI hM hC hS ⟨d31,-⟩;have hS0:S 42=false:=(af hC (j:=42) rfl (by kernel_rfl) (af hC (j:=41) rfl (by kernel_rfl) (af hC (j:=34) rfl (by kernel_rfl) (af hC (j:=33) rfl (by kernel_rfl) hS))));have hM34:=hM.1 hS0;obtain ⟨v34_79,e79,h79⟩:=hI.get (i:=31) (gM 31 rfl) d31;obtain rfl:=h79;exact az [(79,_)] hU hmo hme hI hM (gM 32 rfl) rfl rfl (by kernel_rfl) ⟨e79,trivial⟩ (ar bF rfl (by exact dM (hb.from_ (ag.rfl_.next hM34)) 9 rfl)) ag.rfl_ (rfl)
   constructor
   ·rintro S L' w35 hU hmo hme hI hM hC hS ⟨d32,-⟩;have hS0:S 42=false:=(af hC (j:=42) rfl (by kernel_rfl) (af hC (j:=41) rfl (by kernel_rfl) (af hC (j:=34) rfl (by kernel_rfl) hS)));have hM35:=hM.1 hS0;obtain ⟨v35_80,e80,h80⟩:=hI.get (i:=32) (gM 32 rfl) d32;obtain rfl:=h80;exact az [(80,_)] hU hmo hme hI hM (gM 33 rfl) rfl rfl (by kernel_rfl) ⟨e80,trivial⟩ (df (by kernel_rfl) rfl) ag.rfl_ (rfl)
   constructor
   ·rintro S L' w36 hU hmo hme hI hM hC hS ⟨d26,d33,-⟩;have hS0:S 42=false:=(af hC (j:=42) rfl (by kernel_rfl) (af hC (j:=41) rfl (by kernel_rfl) hS));have hM36:=hM.1 hS0;obtain ⟨v36_74,e74,h74⟩:=hI.get (i:=26) (gM 26 rfl) d26;obtain rfl:=h74;obtain ⟨v36_81,e81,h81⟩:=hI.get (i:=33) (gM 33 rfl) d33;obtain rfl:=h81;exact az [(74,_),(81,_)] hU hmo hme hI hM (gM 34 rfl) rfl rfl (by kernel_rfl) ⟨e74,e81,trivial⟩ ((iY (bf rfl rfl) (congrArg Value.bool (show (((min (na+1024) p.s.snap.size:Nat):Int)==((p.s.snap.size:Nat):Int))=decide (min (na+1024) p.s.snap.size=p.s.snap.size) by rw [Bool.eq_iff_iff,beq_iff_eq,decide_eq_true_eq];omega)))) (ag.rfl_) (rfl)
   constructor
   ·rintro S L' w37 hU hmo hme hI hM hC hS ⟨-⟩;have hS0:S 42=false:=(af hC (j:=42) rfl (by kernel_rfl) (af hC (j:=41) rfl (by kernel_rfl) (af hC (j:=40) rfl (by kernel_rfl) (af hC (j:=39) rfl (by kernel_rfl) (af hC (j:=38) rfl (by kernel_rfl) (af hC (j:=37) rfl (by kernel_rfl) (af hC (j:=36) rfl (by kernel_rfl) hS)))))));have hM37:=hM.1 hS0;have e0:=hI.1 0 (dv rfl);exact az [(0,_)] hU hmo hme hI hM (gM 35 rfl) rfl rfl (by kernel_rfl) ⟨e0,trivial⟩ (aF (v:=.pointer _) rfl) ag.rfl_ (rfl)
   constructor
   ·rintro S L' w38 hU hmo hme hI hM hC hS ⟨d35,-⟩;have hS0:S 42=false:=(af hC (j:=42) rfl (by kernel_rfl) (af hC (j:=41) rfl (by kernel_rfl) (af hC (j:=40) rfl (by kernel_rfl) (af hC (j:=39) rfl (by kernel_rfl) (af hC (j:=38) rfl (by kernel_rfl) (af hC (j:=37) rfl (by kernel_rfl) hS))))));have hM38:=hM.1 hS0;obtain ⟨v38_83,e83,h83⟩:=hI.get (i:=35) (gM 35 rfl) d35;obtain rfl:=h83;exact az [(83,_)] hU hmo hme hI hM (gM 36 rfl) rfl rfl (by kernel_rfl) ⟨e83,trivial⟩ (av rfl) ag.rfl_ (rfl)
   constructor
   ·rintro S L' w39 hU hmo hme hI hM hC hS ⟨d36,-⟩;have hS0:S 42=false:=(af hC (j:=42) rfl (by kernel_rfl) (af hC (j:=41) rfl (by kernel_rfl) (af hC (j:=40) rfl (by kernel_rfl) (af hC (j:=39) rfl (by kernel_rfl) (af hC (j:=38) rfl (by kernel_rfl) hS)))));have hM39:=hM.1 hS0;obtain ⟨v39_84,e84,h84⟩:=hI.get (i:=36) (gM 36 rfl) d36;obtain rfl:=h84;exact az [(84,_)] hU hmo hme hI hM (gM 37 rfl) rfl rfl (by kernel_rfl) ⟨e84,trivial⟩ (aa aD rfl) ag.rfl_ (rfl)
   constructor
   ·rintro S L' w40 hU hmo hme hI hM hC hS ⟨d37,-⟩;have hS0:S 42=false:=(af hC (j:=42) rfl (by kernel_rfl) (af hC (j:=41) rfl (by kernel_rfl) (af hC (j:=40) rfl (by kernel_rfl) (af hC (j:=39) rfl (by kernel_rfl) hS))));have hM40:=hM.1 hS0;obtain ⟨v40_85,e85,h85⟩:=hI.get (i:=37) (gM 37 rfl) d37;obtain rfl:=h85;exact az [(85,_)] hU hmo hme hI hM (gM 38 rfl) rfl rfl (by kernel_rfl) ⟨e85,trivial⟩ (aa aB rfl) ag.rfl_ (rfl)
   constructor
   ·rintro S L' w41 hU hmo hme hI hM hC hS ⟨d38,-⟩;have hS0:S 42=false:=(af hC (j:=42) rfl (by kernel_rfl) (af hC (j:=41) rfl (by kernel_rfl) (af hC (j:=40) rfl (by kernel_rfl) hS)));have hM41:=hM.1 hS0;obtain ⟨v41_86,e86,h86⟩:=hI.get (i:=38) (gM 38 rfl) d38;obtain rfl:=h86;exact az [(86,_)] hU hmo hme hI hM (gM 39 rfl) rfl rfl (by kernel_rfl) ⟨e86,trivial⟩ (aa dZ rfl) ag.rfl_ (rfl)
   constructor
   ·rintro S L' w42 hU hmo hme hI hM hC hS ⟨d39,-⟩;have hS0:S 42=false:=(af hC (j:=42) rfl (by kernel_rfl) (af hC (j:=41) rfl (by kernel_rfl) hS));have hM42:=hM.1 hS0;obtain ⟨v42_87,e87,h87⟩:=hI.get (i:=39) (gM 39 rfl) d39;obtain rfl:=h87;exact az [(87,_)] hU hmo hme hI hM (gM 40 rfl) rfl rfl (by kernel_rfl) ⟨e87,trivial⟩ (ar ak rfl (by exact dM (hb.from_ (ag.rfl_.next hM42)) 18 rfl)) ag.rfl_ (rfl)
   constructor
   ·rintro S L' w43 hU hmo hme hI hM hC hS ⟨d8,d15,d16,d25,d34,d40,-⟩;have hS0:S 42=false:=(af hC (j:=42) rfl (by kernel_rfl) hS);have hM43:=hM.1 hS0;obtain ⟨v43_56,e56,h56⟩:=hI.get (i:=8) (gM 8 rfl) d8;obtain rfl:=h56;obtain ⟨v43_63,e63,h63⟩:=hI.get (i:=15) (gM 15 rfl) d15;obtain rfl:=h63;obtain ⟨v43_64,e64,h64⟩:=hI.get (i:=16) (gM 16 rfl) d16;obtain rfl:=h64;obtain ⟨v43_73,e73,h73⟩:=hI.get (i:=25) (gM 25 rfl) d25;obtain rfl:=h73;obtain ⟨v43_82,e82,h82⟩:=hI.get (i:=34) (gM 34 rfl) d34;obtain rfl:=h82;obtain ⟨v43_88,e88,h88⟩:=hI.get (i:=40) (gM 40 rfl) d40;obtain rfl:=h88;exact az [(56,_),(63,_),(64,_),(73,_),(82,_),(88,_)] hU hmo hme hI hM (gM 41 rfl) rfl rfl (by kernel_rfl) ⟨e56,e63,e64,e73,e82,e88,trivial⟩ (cl (l:=[(0,.const (.int .i64 5)),(4,.tmp 56),(5,.tmp 63),(10,.tmp 64),(11,.tmp 73),(12,.tmp 82),(7,.tmp 88)]) (gv _ _ _ _ _ _)) ag.rfl_ (rfl)
   constructor
   ·rintro S L' w44 hU hmo hme hI hM hC hS ⟨d0,d1,d41,-⟩;have hS0:S 42=false:=hS;have hM44:=hM.1 hS0;obtain ⟨v44_48,e48,h48⟩:=hI.get (i:=0) (.head _) d0;obtain rfl:=h48;obtain ⟨v44_49,e49,h49⟩:=hI.get (i:=1) (.tail _ (.head _)) d1;obtain rfl:=h49;obtain ⟨v44_89,e89,h89⟩:=hI.get (i:=41) (gM 41 rfl) d41;obtain rfl:=h89;refine dV (al:=[.tmp 48,.tmp 49,.tmp 89]) [(48,_),(49,_),(89,_)] hU hI (gM 42 rfl) (by kernel_rfl) ⟨e48,e49,e89,trivial⟩ gd ((lJ w0 Z T g p _ (h.from_ (ag.rfl_.next hM44)) tag _ O oc L (hs.from_ (ag.rfl_.next hM44)) (by omega) { zM with k:=5,ix:=p.s.b,lt:=p.s.t,rd:=p.s.round,a:=(na:Int),d:=p.s.snap.extract na (min (na+1024) p.s.snap.size),dn:=decide (min (na+1024) p.s.snap.size=p.s.snap.size) } ((k:Int)+1) ⟨du,Col.none⟩).mono ?_);rintro v9 w2 ⟨rfl,hS2⟩;exact ⟨⟨fun h0=>(by rw [dS] at h0;cases h0),fun _=>hS2⟩,rfl,⟨fun _ _ _ h=>h,fun _ _ _ h=>h,fun _ _ _ h=>h,fun _ _ _ h=>h,fun _ _ _ h=>h,fun _ _ _ h=>h,fun _ _ _ h=>h,fun _ _ _ h=>h,fun _ _ _ h=>h,fun _ _ _ h=>h,fun _ _ _ h=>h,fun _ _ _ h=>h,fun _ _ _ h=>h,fun _ _ _ h=>h,fun _ _ _ h=>h,fun _ _ _ h=>h,fun _ _ _ h=>h,fun _ _ _ h=>h,fun _ _ _ h=>h,fun _ _ _ h=>h,fun _ _ _ h=>h,fun _ _ _ h=>h,fun _ _ _ h=>h,fun _ _ _ h=>h,fun _ _ _ h=>h,fun _ _ _ h=>h,fun _ _ _ h=>h,fun _ _ _ h=>h,fun _ _ _ h=>h,fun _ _ _ h=>h,fun _ _ _ h=>h,fun _ _ _ h=>h,fun _ _ _ h=>h,fun _ _ _ h=>h,fun _ _ _ h=>h,fun _ _ _ h=>h,fun _ _ _ h=>h,fun _ _ _ h=>h,fun _ _ _ h=>h,fun _ _ _ h=>h,fun _ _ _ h=>h,fun _ _ _ h=>h,fun _ _ _ h=>h,trivial⟩⟩
   exact trivial
  case hend=>
   intro w45 hM;obtain hS9:=hM.2 rfl;rintro v45_48 rfl v45_49 rfl v45_50 rfl v45_51 rfl v45_52 rfl v45_53 rfl v45_54 rfl v45_55 rfl v45_56 rfl v45_57 rfl v45_58 rfl v45_59 rfl v45_60 rfl v45_61 rfl v45_62 rfl v45_63 rfl v45_64 rfl v45_65 rfl v45_66 rfl v45_67 rfl v45_68 rfl v45_69 rfl v45_70 rfl v45_71 rfl v45_72 rfl v45_73 rfl v45_74 rfl v45_75 rfl v45_76 rfl v45_77 rfl v45_78 rfl v45_79 rfl v45_80 rfl v45_81 rfl v45_82 rfl v45_83 rfl v45_84 rfl v45_85 rfl v45_86 rfl v45_87 rfl v45_88 rfl v45_89 rfl v45_90 rfl;refine ef (ai (aE (aG (eg rfl ?_))))
   have e9:p.send ((k:Int)+1)=p.tell (pl { ({ zM with k:=5,ix:=p.s.b,lt:=p.s.t,rd:=p.s.round,a:=(na:Int),d:=p.s.snap.extract na (min (na+1024) p.s.snap.size),dn:=decide (min (na+1024) p.s.snap.size=p.s.snap.size) }:Msg) with t:=(k:Int)+1 }):=by
    unfold Sp.send;rw [ta (by rw [hpn];omega) (by rw [hpx,hna])];rfl
   rw [e9];exact ⟨rfl,hS9⟩
 refine aO (ai (ao (ah (mvp rfl (ab (av rfl) (ab (aa aD rfl) (ab (aa aB rfl) (ab (aa bn rfl) (ab (aH (cs:=[.int .i64 p.s.b,.int .i64 p.s.t,.slice E p.s.es.length Ec]) bQ bh rfl (gW (hb.from_ ag.rfl_))) (mvi rfl ?_))))))))));have hB98:ag w w:=ag.rfl_;have hz98:=hB98.size;refine aC sD (zB p.s.b p.s.t p.s.next[k] E p.s.es.length Ec p.s.es _ (he.from_ ag.rfl_) hF.lg (by omega)) ?_;rintro v99 w46 ⟨⟨A99,c99,rfl,ho99⟩,E99⟩;have hs9:=hs.new hzw (ag.rfl_.next E99) (1000+2*L.length);have hc9:Col (fP w.heap.size (1000+2*L.length) tag) (1000+2*L.length) A99:=fun q hq=>dN (by have:=(eO ho99 q hq).1;omega)
 have h9:=h.from_ (ag.rfl_.next E99);refine mvt rfl (ab (a_ rfl rfl) (ab (a_ rfl rfl) (ass rfl (asi rfl (an (ai ?_))))));apply fA [(0,102,fun _ v _=>v=_),(1,103,fun _ v _=>v=_),(2,104,fun _ v _=>v=_),(3,105,fun _ v _=>v=_),(4,106,fun _ v _=>v=_),(5,107,fun _ v _=>v=_),(6,108,fun _ v _=>v=_),(7,109,fun _ v _=>v=_),(8,110,fun _ v _=>v=_),(9,111,fun _ v _=>v=_),(10,112,fun _ v _=>v=_),(11,113,fun _ v _=>v=_),(12,114,fun _ v _=>v=_),(13,115,fun _ v _=>v=_),(14,116,fun _ v _=>v=_),(15,117,fun _ v _=>v=_),(16,118,fun _ v _=>v=_),(17,119,fun _ v _=>v=_),(18,120,fun _ v _=>v=_),(19,121,fun _ v _=>v=_),(20,122,fun _ v _=>v=_),(21,123,fun _ v _=>v=_),(22,124,fun _ v _=>v=_),(23,125,fun _ v _=>v=_),(24,126,fun _ v _=>v=_)] [24] (fun S w'=>(S 24=false→ag w46 w')∧(S 24=true→aR w0 Z w' T g (p.tell (pl { ({ zM with k:=3,ix:=p.s.next[k]-1,lt:=de p.s.b p.s.t p.s.es (p.s.next[k]-1),cm:=p.s.commit,rd:=p.s.round,E:=A99,c:=c99,es:=(p.s.es.drop (p.s.next[k]-p.s.b-1).toNat).take 16 }:Msg) with t:=(k:Int)+1 })))) (by kernel_rfl) (by kernel_rfl) rfl rfl ⟨fun _ _ _ _ _ _ _ h=>h,fun _ _ _ _ _ _ _ h=>h,fun _ _ _ _ _ _ _ h=>h,fun _ _ _ _ _ _ _ h=>h,fun _ _ _ _ _ _ _ h=>h,fun _ _ _ _ _ _ _ h=>h,fun _ _ _ _ _ _ _ h=>h,fun _ _ _ _ _ _ _ h=>h,fun _ _ _ _ _ _ _ h=>h,fun _ _ _ _ _ _ _ h=>h,fun _ _ _ _ _ _ _ h=>h,fun _ _ _ _ _ _ _ h=>h,fun _ _ _ _ _ _ _ h=>h,fun _ _ _ _ _ _ _ h=>h,fun _ _ _ _ _ _ _ h=>h,fun _ _ _ _ _ _ _ h=>h,fun _ _ _ _ _ _ _ h=>h,fun _ _ _ _ _ _ _ h=>h,fun _ _ _ _ _ _ _ h=>h,fun _ _ _ _ _ _ _ h=>h,fun _ _ _ _ _ _ _ h=>h,fun _ _ _ _ _ _ _ h=>h,fun _ _ _ _ _ _ _ h=>h,fun _ _ _ _ _ _ _ h=>h,fun _ _ _ _ _ _ _ h=>h,trivial⟩ (fun S i w1 w2 hq hF h=>⟨fun h0=>(h.1 (dY h0)).next hF,fun h1=>(fun h=>h.from_ hF) (h.2 (jr (show 24≠i by rintro rfl;exact absurd hq (by decide)) h1))⟩) ⟨fun _=>ag.rfl_.d1,fun h=>by cases h⟩
 case hstep=>
  constructor
  ·rintro S L' w47 hU hmo hme hI hM hC hS ⟨-⟩;have hS0:S 24=false:=(af hC (j:=24) rfl (by kernel_rfl) hS);have hM47:=hM.1 hS0;have e0:=hI.1 0 (dv rfl);exact az [(0,_)] hU hmo hme hI hM (.head _) rfl rfl (by kernel_rfl) ⟨e0,trivial⟩ (aF (v:=.pointer _) rfl) ag.rfl_ (rfl)
  constructor
  ·rintro S L' w48 hU hmo hme hI hM hC hS ⟨-⟩;have hS0:S 24=false:=(af hC (j:=24) rfl (by kernel_rfl) hS);have hM48:=hM.1 hS0;have e1:=hI.1 1 (dv rfl);exact az [(1,_)] hU hmo hme hI hM (.tail _ (.head _)) rfl rfl (by kernel_rfl) ⟨e1,trivial⟩ (aF (v:=.int _ _) rfl) ag.rfl_ (rfl)
  constructor
  ·rintro S L' w49 hU hmo hme hI hM hC hS ⟨-⟩;have hS0:S 24=false:=(af hC (j:=24) rfl (by kernel_rfl) (af hC (j:=23) rfl (by kernel_rfl) (af hC (j:=3) rfl (by kernel_rfl) hS)));have hM49:=hM.1 hS0;have e4:=hI.1 4 (dv rfl);exact az [(4,_)] hU hmo hme hI hM (gM 2 rfl) rfl rfl (by kernel_rfl) ⟨e4,trivial⟩ (aF (v:=.int _ _) rfl) ag.rfl_ (rfl)
  constructor
  ·rintro S L' w50 hU hmo hme hI hM hC hS ⟨d2,-⟩;have hS0:S 24=false:=(af hC (j:=24) rfl (by kernel_rfl) (af hC (j:=23) rfl (by kernel_rfl) hS));have hM50:=hM.1 hS0;obtain ⟨v50_104,e104,h104⟩:=hI.get (i:=2) (gM 2 rfl) d2;obtain rfl:=h104;exact az [(104,_)] hU hmo hme hI hM (gM 3 rfl) rfl rfl (by kernel_rfl) ⟨e104,trivial⟩ (eJ rfl rfl (by omega)) ag.rfl_ (rfl)
  constructor
  ·rintro S L' w51 hU hmo hme hI hM hC hS ⟨-⟩;have hS0:S 24=false:=(af hC (j:=24) rfl (by kernel_rfl) (af hC (j:=23) rfl (by kernel_rfl) (af hC (j:=9) rfl (by kernel_rfl) (af hC (j:=6) rfl (by kernel_rfl) (af hC (j:=5) rfl (by kernel_rfl) hS)))));have hM51:=hM.1 hS0;have e0:=hI.1 0 (dv rfl);exact az [(0,_)] hU hmo hme hI hM (gM 4 rfl) rfl rfl (by kernel_rfl) ⟨e0,trivial⟩ (aF (v:=.pointer _) rfl) ag.rfl_ (rfl)
  constructor
  ·rintro S L' w52 hU hmo hme hI hM hC hS ⟨d4,-⟩;have hS0:S 24=false:=(af hC (j:=24) rfl (by kernel_rfl) (af hC (j:=23) rfl (by kernel_rfl) (af hC (j:=9) rfl (by kernel_rfl) (af hC (j:=6) rfl (by kernel_rfl) hS))));have hM52:=hM.1 hS0;obtain ⟨v52_106,e106,h106⟩:=hI.get (i:=4) (gM 4 rfl) d4;obtain rfl:=h106;exact az [(106,_)] hU hmo hme hI hM (gM 5 rfl) rfl rfl (by kernel_rfl) ⟨e106,trivial⟩ (av rfl) ag.rfl_ (rfl)
  constructor
  ·rintro S L' w53 hU hmo hme hI hM hC hS ⟨d5,-⟩;have hS0:S 24=false:=(af hC (j:=24) rfl (by kernel_rfl) (af hC (j:=23) rfl (by kernel_rfl) (af hC (j:=9) rfl (by kernel_rfl) hS)));have hM53:=hM.1 hS0;obtain ⟨v53_107,e107,h107⟩:=hI.get (i:=5) (gM 5 rfl) d5;obtain rfl:=h107;exact az [(107,_)] hU hmo hme hI hM (gM 6 rfl) rfl rfl (by kernel_rfl) ⟨e107,trivial⟩ (aa aD rfl) ag.rfl_ (rfl)
  constructor
  ·rintro S L' w54 hU hmo hme hI hM hC hS ⟨-⟩;have hS0:S 24=false:=(af hC (j:=24) rfl (by kernel_rfl) (af hC (j:=23) rfl (by kernel_rfl) (af hC (j:=9) rfl (by kernel_rfl) (af hC (j:=8) rfl (by kernel_rfl) hS))));have hM54:=hM.1 hS0;have e4:=hI.1 4 (dv rfl);exact az [(4,_)] hU hmo hme hI hM (gM 7 rfl) rfl rfl (by kernel_rfl) ⟨e4,trivial⟩ (aF (v:=.int _ _) rfl) ag.rfl_ (rfl)
  constructor
  ·rintro S L' w55 hU hmo hme hI hM hC hS ⟨d7,-⟩;have hS0:S 24=false:=(af hC (j:=24) rfl (by kernel_rfl) (af hC (j:=23) rfl (by kernel_rfl) (af hC (j:=9) rfl (by kernel_rfl) hS)));have hM55:=hM.1 hS0;obtain ⟨v55_109,e109,h109⟩:=hI.get (i:=7) (gM 7 rfl) d7;obtain rfl:=h109;exact az [(109,_)] hU hmo hme hI hM (gM 8 rfl) rfl rfl (by kernel_rfl) ⟨e109,trivial⟩ (eJ rfl rfl (by omega)) ag.rfl_ (rfl)
  constructor
  ·rintro S L' w56 hU hmo hme hI hM hC hS ⟨d6,d8,-⟩;have hS0:S 24=false:=(af hC (j:=24) rfl (by kernel_rfl) hS);have hM56:=hM.1 hS0;obtain ⟨v56_108,e108,h108⟩:=hI.get (i:=6) (gM 6 rfl) d6;obtain rfl:=h108;obtain ⟨v56_110,e110,h110⟩:=hI.get (i:=8) (gM 8 rfl) d8;obtain rfl:=h110;refine jY (al:=[.tmp 108,.tmp 110]) [(108,_),(110,_)] hU hmo hme hI hM (gM 9 rfl) rfl (by kernel_rfl) ⟨e108,e110,trivial⟩ ki ((od T g p.s _ _ _ (hb.from_ ((ag.rfl_.next E99).next hM56)) (he.from_ ((ag.rfl_.next E99).next hM56)) hF.lg (p.s.next[k]-1) (by omega)).mono ?_);rintro v w2 ⟨rfl,E56'⟩;exact ⟨E56',rfl⟩
  constructor
  ·rintro S L' w57 hU hmo hme hI hM hC hS ⟨-⟩;have hS0:S 24=false:=(af hC (j:=24) rfl (by kernel_rfl) (af hC (j:=23) rfl (by kernel_rfl) (af hC (j:=15) rfl (by kernel_rfl) (af hC (j:=14) rfl (by kernel_rfl) (af hC (j:=13) rfl (by kernel_rfl) (af hC (j:=12) rfl (by kernel_rfl) (af hC (j:=11) rfl (by kernel_rfl) hS)))))));have hM57:=hM.1 hS0;have e0:=hI.1 0 (dv rfl);exact az [(0,_)] hU hmo hme hI hM (gM 10 rfl) rfl rfl (by kernel_rfl) ⟨e0,trivial⟩ (aF (v:=.pointer _) rfl) ag.rfl_ (rfl)
  constructor
  ·rintro S L' w58 hU hmo hme hI hM hC hS ⟨d10,-⟩;have hS0:S 24=false:=(af hC (j:=24) rfl (by kernel_rfl) (af hC (j:=23) rfl (by kernel_rfl) (af hC (j:=15) rfl (by kernel_rfl) (af hC (j:=14) rfl (by kernel_rfl) (af hC (j:=13) rfl (by kernel_rfl) (af hC (j:=12) rfl (by kernel_rfl) hS))))));have hM58:=hM.1 hS0;obtain ⟨v58_112,e112,h112⟩:=hI.get (i:=10) (gM 10 rfl) d10;obtain rfl:=h112;exact az [(112,_)] hU hmo hme hI hM (gM 11 rfl) rfl rfl (by kernel_rfl) ⟨e112,trivial⟩ (av rfl) ag.rfl_ (rfl)
  constructor
  ·rintro S L' w59 hU hmo hme hI hM hC hS ⟨d11,-⟩;have hS0:S 24=false:=(af hC (j:=24) rfl (by kernel_rfl) (af hC (j:=23) rfl (by kernel_rfl) (af hC (j:=15) rfl (by kernel_rfl) (af hC (j:=14) rfl (by kernel_rfl) (af hC (j:=13) rfl (by kernel_rfl) hS)))));have hM59:=hM.1 hS0;obtain ⟨v59_113,e113,h113⟩:=hI.get (i:=11) (gM 11 rfl) d11;obtain rfl:=h113;exact az [(113,_)] hU hmo hme hI hM (gM 12 rfl) rfl rfl (by kernel_rfl) ⟨e113,trivial⟩ (aa aD rfl) ag.rfl_ (rfl)
  constructor
  ·rintro S L' w60 hU hmo hme hI hM hC hS ⟨d12,-⟩;have hS0:S 24=false:=(af hC (j:=24) rfl (by kernel_rfl) (af hC (j:=23) rfl (by kernel_rfl) (af hC (j:=15) rfl (by kernel_rfl) (af hC (j:=14) rfl (by kernel_rfl) hS))));have hM60:=hM.1 hS0;obtain ⟨v60_114,e114,h114⟩:=hI.get (i:=12) (gM 12 rfl) d12;obtain rfl:=h114;exact az [(114,_)] hU hmo hme hI hM (gM 13 rfl) rfl rfl (by kernel_rfl) ⟨e114,trivial⟩ (aa aB rfl) ag.rfl_ (rfl)
  constructor
  ·rintro S L' w61 hU hmo hme hI hM hC hS ⟨d13,-⟩;have hS0:S 24=false:=(af hC (j:=24) rfl (by kernel_rfl) (af hC (j:=23) rfl (by kernel_rfl) (af hC (j:=15) rfl (by kernel_rfl) hS)));have hM61:=hM.1 hS0;obtain ⟨v61_115,e115,h115⟩:=hI.get (i:=13) (gM 13 rfl) d13;obtain rfl:=h115;exact az [(115,_)] hU hmo hme hI hM (gM 14 rfl) rfl rfl (by kernel_rfl) ⟨e115,trivial⟩ (aa bW rfl) ag.rfl_ (rfl)
  constructor
  ·rintro S L' w62 hU hmo hme hI hM hC hS ⟨d14,-⟩;have hS0:S 24=false:=(af hC (j:=24) rfl (by kernel_rfl) (af hC (j:=23) rfl (by kernel_rfl) hS));have hM62:=hM.1 hS0;obtain ⟨v62_116,e116,h116⟩:=hI.get (i:=14) (gM 14 rfl) d14;obtain rfl:=h116;exact az [(116,_)] hU hmo hme hI hM (gM 15 rfl) rfl rfl (by kernel_rfl) ⟨e116,trivial⟩ (ar ak rfl (by exact dM (hb.from_ ((ag.rfl_.next E99).next hM62)) 10 rfl)) ag.rfl_ (rfl)
  constructor
  ·rintro S L' w63 hU hmo hme hI hM hC hS ⟨-⟩;have hS0:S 24=false:=(af hC (j:=24) rfl (by kernel_rfl) (af hC (j:=23) rfl (by kernel_rfl) hS));have hM63:=hM.1 hS0;have e7:=hI.1 7 (dv rfl);exact az [(7,_)] hU hmo hme hI hM (gM 16 rfl) rfl rfl (by kernel_rfl) ⟨e7,trivial⟩ (aF (v:=.slice _ _ _) rfl) ag.rfl_ (rfl)
  constructor
  ·rintro S L' w64 hU hmo hme hI hM hC hS ⟨-⟩;have hS0:S 24=false:=(af hC (j:=24) rfl (by kernel_rfl) (af hC (j:=23) rfl (by kernel_rfl) (af hC (j:=22) rfl (by kernel_rfl) (af hC (j:=21) rfl (by kernel_rfl) (af hC (j:=20) rfl (by kernel_rfl) (af hC (j:=19) rfl (by kernel_rfl) (af hC (j:=18) rfl (by kernel_rfl) hS)))))));have hM64:=hM.1 hS0;have e0:=hI.1 0 (dv rfl);exact az [(0,_)] hU hmo hme hI hM (gM 17 rfl) rfl rfl (by kernel_rfl) ⟨e0,trivial⟩ (aF (v:=.pointer _) rfl) ag.rfl_ (rfl)
  constructor
  ·rintro S L' w65 hU hmo hme hI hM hC hS ⟨d17,-⟩;have hS0:S 24=false:=(af hC (j:=24) rfl (by kernel_rfl) (af hC (j:=23) rfl (by kernel_rfl) (af hC (j:=22) rfl (by kernel_rfl) (af hC (j:=21) rfl (by kernel_rfl) (af hC (j:=20) rfl (by kernel_rfl) (af hC (j:=19) rfl (by kernel_rfl) hS))))));have hM65:=hM.1 hS0;obtain ⟨v65_119,e119,h119⟩:=hI.get (i:=17) (gM 17 rfl) d17;obtain rfl:=h119;exact az [(119,_)] hU hmo hme hI hM (gM 18 rfl) rfl rfl (by kernel_rfl) ⟨e119,trivial⟩ (av rfl) ag.rfl_ (rfl)
  constructor
  ·rintro S L' w66 hU hmo hme hI hM hC hS ⟨d18,-⟩;have hS0:S 24=false:=(af hC (j:=24) rfl (by kernel_rfl) (af hC (j:=23) rfl (by kernel_rfl) (af hC (j:=22) rfl (by kernel_rfl) (af hC (j:=21) rfl (by kernel_rfl) (af hC (j:=20) rfl (by kernel_rfl) hS)))));have hM66:=hM.1 hS0;obtain ⟨v66_120,e120,h120⟩:=hI.get (i:=18) (gM 18 rfl) d18;obtain rfl:=h120;exact az [(120,_)] hU hmo hme hI hM (gM 19 rfl) rfl rfl (by kernel_rfl) ⟨e120,trivial⟩ (aa aD rfl) ag.rfl_ (rfl)
  constructor
  ·rintro S L' w67 hU hmo hme hI hM hC hS ⟨d19,-⟩;have hS0:S 24=false:=(af hC (j:=24) rfl (by kernel_rfl) (af hC (j:=23) rfl (by kernel_rfl) (af hC (j:=22) rfl (by kernel_rfl) (af hC (j:=21) rfl (by kernel_rfl) hS))));have hM67:=hM.1 hS0;obtain ⟨v67_121,e121,h121⟩:=hI.get (i:=19) (gM 19 rfl) d19;obtain rfl:=h121;exact az [(121,_)] hU hmo hme hI hM (gM 20 rfl) rfl rfl (by kernel_rfl) ⟨e121,trivial⟩ (aa aB rfl) ag.rfl_ (rfl)
  constructor
  ·rintro S L' w68 hU hmo hme hI hM hC hS ⟨d20,-⟩;have hS0:S 24=false:=(af hC (j:=24) rfl (by kernel_rfl) (af hC (j:=23) rfl (by kernel_rfl) (af hC (j:=22) rfl (by kernel_rfl) hS)));have hM68:=hM.1 hS0;obtain ⟨v68_122,e122,h122⟩:=hI.get (i:=20) (gM 20 rfl) d20;obtain rfl:=h122;exact az [(122,_)] hU hmo hme hI hM (gM 21 rfl) rfl rfl (by kernel_rfl) ⟨e122,trivial⟩ (aa dZ rfl) ag.rfl_ (rfl)
  constructor
  ·rintro S L' w69 hU hmo hme hI hM hC hS ⟨d21,-⟩;have hS0:S 24=false:=(af hC (j:=24) rfl (by kernel_rfl) (af hC (j:=23) rfl (by kernel_rfl) hS));have hM69:=hM.1 hS0;obtain ⟨v69_123,e123,h123⟩:=hI.get (i:=21) (gM 21 rfl) d21;obtain rfl:=h123;exact az [(123,_)] hU hmo hme hI hM (gM 22 rfl) rfl rfl (by kernel_rfl) ⟨e123,trivial⟩ (ar ak rfl (by exact dM (hb.from_ ((ag.rfl_.next E99).next hM69)) 18 rfl)) ag.rfl_ (rfl)
  constructor
  ·rintro S L' w70 hU hmo hme hI hM hC hS ⟨d3,d9,d15,d16,d22,-⟩;have hS0:S 24=false:=(af hC (j:=24) rfl (by kernel_rfl) hS);have hM70:=hM.1 hS0;obtain ⟨v70_105,e105,h105⟩:=hI.get (i:=3) (gM 3 rfl) d3;obtain rfl:=h105;obtain ⟨v70_111,e111,h111⟩:=hI.get (i:=9) (gM 9 rfl) d9;obtain rfl:=h111;obtain ⟨v70_117,e117,h117⟩:=hI.get (i:=15) (gM 15 rfl) d15;obtain rfl:=h117;obtain ⟨v70_118,e118,h118⟩:=hI.get (i:=16) (gM 16 rfl) d16;obtain rfl:=h118;obtain ⟨v70_124,e124,h124⟩:=hI.get (i:=22) (gM 22 rfl) d22;obtain rfl:=h124;exact az [(105,_),(111,_),(117,_),(118,_),(124,_)] hU hmo hme hI hM (gM 23 rfl) rfl rfl (by kernel_rfl) ⟨e105,e111,e117,e118,e124,trivial⟩ (cl (l:=[(0,.const (.int .i64 3)),(4,.tmp 105),(5,.tmp 111),(6,.tmp 117),(9,.tmp 118),(7,.tmp 124)]) (ib _ _ _ _ _ _ _)) ag.rfl_ (rfl)
  constructor
  ·rintro S L' w71 hU hmo hme hI hM hC hS ⟨d0,d1,d23,d9,-⟩;have hS0:S 24=false:=hS;have hM71:=hM.1 hS0;obtain ⟨v71_102,e102,h102⟩:=hI.get (i:=0) (.head _) d0;obtain rfl:=h102;obtain ⟨v71_103,e103,h103⟩:=hI.get (i:=1) (.tail _ (.head _)) d1;obtain rfl:=h103;obtain ⟨v71_125,e125,h125⟩:=hI.get (i:=23) (gM 23 rfl) d23;obtain rfl:=h125;refine dV (al:=[.tmp 102,.tmp 103,.tmp 125]) [(102,_),(103,_),(125,_)] hU hI (gM 24 rfl) (by kernel_rfl) ⟨e102,e103,e125,trivial⟩ gd ((lJ w0 Z T g p _ (h9.from_ (ag.rfl_.next hM71)) _ _ O oc L (hs9.from_ (ag.rfl_.next hM71)) (by omega) { zM with k:=3,ix:=p.s.next[k]-1,lt:=de p.s.b p.s.t p.s.es (p.s.next[k]-1),cm:=p.s.commit,rd:=p.s.round,E:=A99,c:=c99,es:=(p.s.es.drop (p.s.next[k]-p.s.b-1).toNat).take 16 } ((k:Int)+1) ⟨dW (ho99.kept_from (ag.rfl_.next hM71)) (Nat.zero_le _),hc9⟩).mono ?_);rintro v9 w2 ⟨rfl,hS2⟩;exact ⟨⟨fun h0=>(by rw [dS] at h0;cases h0),fun _=>hS2⟩,rfl,⟨fun _ _ _ h=>h,fun _ _ _ h=>h,fun _ _ _ h=>h,fun _ _ _ h=>h,fun _ _ _ h=>h,fun _ _ _ h=>h,fun _ _ _ h=>h,fun _ _ _ h=>h,fun _ _ _ h=>h,fun _ _ _ h=>h,fun _ _ _ h=>h,fun _ _ _ h=>h,fun _ _ _ h=>h,fun _ _ _ h=>h,fun _ _ _ h=>h,fun _ _ _ h=>h,fun _ _ _ h=>h,fun _ _ _ h=>h,fun _ _ _ h=>h,fun _ _ _ h=>h,fun _ _ _ h=>h,fun _ _ _ h=>h,fun _ _ _ h=>h,fun _ _ _ h=>h,fun _ _ _ h=>h,trivial⟩⟩
  exact trivial
 case hend=>
  intro w72 hM;obtain hS9:=hM.2 rfl;rintro v72_102 rfl v72_103 rfl v72_104 rfl v72_105 rfl v72_106 rfl v72_107 rfl v72_108 rfl v72_109 rfl v72_110 rfl v72_111 rfl v72_112 rfl v72_113 rfl v72_114 rfl v72_115 rfl v72_116 rfl v72_117 rfl v72_118 rfl v72_119 rfl v72_120 rfl v72_121 rfl v72_122 rfl v72_123 rfl v72_124 rfl v72_125 rfl v72_126 rfl;refine ef (da (eg rfl ?_))
  have e9:p.send ((k:Int)+1)=p.tell (pl { ({ zM with k:=3,ix:=p.s.next[k]-1,lt:=de p.s.b p.s.t p.s.es (p.s.next[k]-1),cm:=p.s.commit,rd:=p.s.round,E:=A99,c:=c99,es:=(p.s.es.drop (p.s.next[k]-p.s.b-1).toNat).take 16 }:Msg) with t:=(k:Int)+1 }):=by
   unfold Sp.send;rw [vj (by rw [hpn];omega),hpn];rfl
  rw [e9];exact ⟨rfl,hS9⟩
theorem o_:aQ prog 77=true:=by kernel_rfl
theorem t_:aQ prog 78=true:=by kernel_rfl
theorem jj:kq prog 22=some (99,3,32,(.agg #[.int .i64 0,.int .i64 0,.string ⟨#[]⟩])):=by kernel_rfl
theorem mX:∀ (a0:Int) (a1:Int) (a2:ByteArray),prog.built 99 [(0,.int .i64 a0),(1,.int .i64 a1),(2,.string a2)]=some #[.int .i64 a0,.int .i64 a1,.string a2]:=by intros;kernel_rfl
theorem sx:aQ prog 112=true:=by kernel_rfl
theorem cW:cI prog 29 2=some 2:=by kernel_rfl
theorem d_:cI prog 29 5=some 5:=by kernel_rfl
theorem dc:cI prog 29 12=some 14:=by kernel_rfl
theorem c_:ea prog 26=some 1:=by kernel_rfl
theorem cY:cI prog 29 14=some 16:=by kernel_rfl
theorem cf:cI prog 29 17=some 19:=by kernel_rfl
theorem ji:ea prog 27=some 1:=by kernel_rfl
theorem fm:cI prog 29 4=some 4:=by kernel_rfl
theorem bw:cI prog 29 18=some 20:=by kernel_rfl
theorem ep:ea prog 9=some 1:=by kernel_rfl
theorem cA:cI prog 29 19=some 21:=by kernel_rfl
theorem sw:aQ prog 115=true:=by kernel_rfl
theorem qs (l:List Int) (p:Sp):(p.sends l).s=p.s:=by rw [kC]
theorem vi (l:List Int) (p:Sp):(p.sends l).out.length=p.out.length+l.length:=by rw [kC];simp
theorem vh {l:List Int} {i:Nat} (h:i<l.length) (p:Sp):p.sends (l.take (i+1))=(p.sends (l.take i)).send l[i]:=by
 rw [List.take_succ_eq_append_getElem h,pI];rfl
theorem lK (s:Rf):(dJ s).length≤s.nodes.toNat:=uI _ _
theorem th {s:Rf} {x:Int} (h:x∈dJ s) (hn:0≤s.nodes):1≤x∧x≤s.nodes∧x≠s.id:=by
 have:=wU h;omega
theorem oy (w0:World) (Z:Nat→Prop) (T g:Nat) (p:Sp) (w:World) (h:aR w0 Z w T g p) (hF:RfF p.s) (hr:p.s.role=2) (hl:p.out.length≤800) :
 Rt prog 84 [.pointer (some ⟨g,0,none⟩)] w (fun v w'=>v=.tuple #[]∧aR w0 Z w' T g p.all):=by
 obtain ⟨tag,a,O,oc,L,hs⟩:=h.ex;obtain ⟨E,Ec,V,Vc,X,Xc,M,Mc,S,Sc,Q,Qc,LL⟩:=a;have hb:=hs.b;have hll:L.length=p.out.length:=by rw [←hs.m.l,List.length_map]
 have hn0:=hF.n;refine enter (n:=17) Tryz.func84 rfl rfl rfl (ao (ah (mvp rfl (ab (av rfl) (ab (aa aD rfl) (aC o_ (pU T g p.s _ _ _ (hb.from_ ag.rfl_) (by omega)) ?_))))));rintro v7 w1 ⟨⟨A7,c7,rfl,ho7a⟩,E7⟩
 have h7:=h.at_ (Z':=fun k=>Z k∨A7.map (·.block)=some k) (ag.rfl_.next E7) (fun k hk=>by
  have hz7:=((ag.rfl_.next E7)).size;rcases hk with e | e
  ·exact ⟨Nat.lt_of_lt_of_le (h.zw k e) hz7,.inl e⟩
  ·have:=eO ho7a k e;exact ⟨this.2,.inr (by omega)⟩)
 have hB7:ag w w1:=(ag.rfl_.next E7);have ho7:=ho7a;obtain ⟨Z7,hZ7⟩:∃ Z7,Z7=fun k=>Z k∨A7.map (·.block)=some k:=⟨_,rfl⟩
 rw [←hZ7] at h7;have hzi:∀ k,Z k→Z7 k:=fun k hk=>by rw [hZ7];exact .inl hk
 have hzr:∀ k,A7.map (·.block)=some k→Z7 k:=fun k hk=>by rw [hZ7];exact .inr hk
 have hol:=lK p.s;have hnn:=hF.n;refine ab (bU cy rfl) (mvi rfl (an (ai (bk (dr (G:=Nat) [3,10,11,12,13,14,15,16] (fun i=>[(9,.int .i64 (i:Nat))]) (fun i w'=>i≤(dJ p.s).length∧aR w1 Z7 w' T g (p.sends ((dJ p.s).take i))) (fun i=>(dJ p.s).length-i) (0) ⟨rfl,trivial⟩ ?_ ?_)))))
 ·exact ⟨Nat.zero_le _,h7⟩
 rintro i ρ2 w2 ⟨hi,h15⟩;refine ao (ah (ab (ch rfl rfl) (an (ai (ao (AT rfl (fun Q3=>?_) (fun Q3=>?_)))))))
 ·have hi9:i<(dJ p.s).length:=by omega
  obtain ⟨g7,rfl⟩:=fR ho7 (by omega);have ho8:=eE ho7 h15.fr (fun q hq e=>e (hzr q hq));have hc8:=jM (l:=dJ p.s) ho8 i hi9;refine aO (ai (ao (bk (ao (ah (ab (eu cX rfl rfl (by omega)) (ab (ar ak rfl (by exact fy (ag.rfl_ (a:=w2)) hc8)) ?_)))))));refine asi rfl (an (ai (ah (mvp rfl (mvi rfl ?_)))));refine aC t_ (yv _ Z7 T g (p.sends ((dJ p.s).take i)) _ (h15.from_ (ag.rfl_ (a:=w2))) (by rw [qs];exact hF) (by rw [qs];exact hr) (by rw [vi,List.length_take];omega) (dJ p.s)[i] (by rw [qs];have:=th (List.getElem_mem hi9) (by omega);omega)) ?_;rintro v15 w4 ⟨rfl,h16⟩;refine an (bN (ai (ah (ab (dD (b:=1) rfl rfl (by omega)) (mvi rfl (an ?_))))));refine bL (i+1) ⟨(by first | rfl | (refine bT ?_;omega)),trivial⟩ (by (iterate 18 refine bd rfl ?_);exact br) ⟨?_,?_⟩
  ·exact ⟨by omega,by rw [vh hi9];exact h16.from_ (ag.rfl_ (a:=w4))⟩
  ·omega
 refine cL (bB (bB (cw (da (eg rfl ?_)))));obtain rfl:i=(dJ p.s).length:=by omega
 rw [List.take_length] at h15;exact ⟨rfl,h.back hB7 h15 hzi⟩
theorem zi (s:Rf) (E U:Option Addr) (c u:Nat) (d:ByteArray) (w:World) (hF:RfF s) (hf:ir s=false) (hd:d.size≤4096) (h:cC w (.slice E s.es.length c) s.es) (hu:cC w (.slice U 1 u) [⟨bm s+1,s.term,d⟩]) :
 Rt prog 112 [.agg #[.int .i64 s.b,.int .i64 s.t,.slice E s.es.length c],.slice U 1 u] w fun v w'=>(∃ A' c',v=.tuple #[.agg #[.int .i64 s.b,.int .i64 s.t,.slice A' (s.es.length+1) c'],.int .i64 0]∧w'.ownsRow w.heap.size 99 3 (.slice A' (s.es.length+1) c') (s.es.length+1) (dT (fF s d).es))∧ag w w':=
 (tT s.b s.t (.slice E s.es.length c) (.slice U 1 u) s.es [⟨bm s+1,s.term,d⟩] w h hu (by show 1≤_;omega)).mono fun e w' ⟨L,he,hg,hF'⟩=>by
  have h1:=(hF.add hf d hd).1;have hl:=hF.last
  have h0:o6 s.b s.t s.es [⟨bm s+1,s.term,d⟩]=0:=by
   unfold o6;rw [if_pos hF.lg,if_pos ?_,if_pos ?_]
   ·have:=(hF.add hf d hd).2.2;have h2:=(eU h1).2.2.2;rw [this] at h2;exact h2
   ·unfold ir at hf;simp only [Bool.or_eq_false_iff,decide_eq_false_iff_not] at hf;show (ga _ (dh s.b s.es) (cV s.t s.es)&&true)=true;rw [Bool.and_true];unfold ga;have hte:=hF.te;have hlt:=hF.lt;simp only [Bool.and_eq_true,decide_eq_true_eq];exact ⟨⟨⟨rfl,fv ⟨by show 1≤bm s+1;omega,by show bm s+1≤_;omega⟩⟩,fv ⟨by show max (cV s.t s.es) 0≤s.term;omega,hte.2⟩⟩,hd⟩
  rw [h0] at he hg;obtain ⟨v',hL,ho⟩:=hg.2 rfl;rw [List.length_append] at ho;obtain ⟨A',c',rfl⟩:=fS ho;subst hL;exact ⟨_,he,⟨A',c',rfl,ho⟩,hF'⟩
theorem Ah (w0:World) (Z:Nat→Prop) (T g:Nat) (p:Sp) (w:World) (h:aR w0 Z w T g p) (hF:RfF p.s) (hf:ir p.s=false) (d:ByteArray) (hd:d.size≤4096) :
 Rt prog 76 [.pointer (some ⟨g,0,none⟩),.string d] w (fun v w'=>v=.int .i64 (bm p.s+1)∧aR w0 Z w' T g ⟨fF p.s d,p.out⟩):=by
 obtain ⟨tag,a,O,oc,L,hs⟩:=h.ex;obtain ⟨E,Ec,V,Vc,X,Xc,M,Mc,S,Sc,Q,Qc,LL⟩:=a;have hb:=hs.b;have hll:L.length=p.out.length:=by rw [←hs.m.l,List.length_map]
 have hbl:=hF.last;have hlb:dh p.s.b p.s.es=bm p.s:=rfl;have he:cC w (.slice E p.s.es.length Ec) p.s.es:=hs.f.rd.e;have hnn:=hF.n;have hzw:=h.zw;refine enter (n:=42) Tryz.func76 rfl rfl rfl (ao (ah (asi rfl (an (ai (ao (ah (mvp rfl (aC gK (kH T g p.s _ _ _ (hb.from_ ag.rfl_) (he.from_ ag.rfl_) hF.lg) ?_)))))))));rintro v11 w1 ⟨rfl,E11⟩;refine mvt rfl (ab (a_ rfl rfl) (ab (a_ rfl rfl) (asi rfl (asi rfl (an (ai (ao (ah (mvi rfl (ab (cn rfl rfl (by omega)) (asi rfl ?_)))))))))));refine an (ai (ao (ao ?_)));apply bK 19 [(17,eqp _),(18,eqp _),(19,eqp _),(20,eqp _),(21,eqp _),(22,eqp _),(23,eqp _),(24,eqp _),(25,eqp _),(26,eqp _),(27,eqp _),(28,eqp _),(29,eqp _),(30,fun v w'=>∃ b,v=.slice (some ⟨b,0,none⟩) 1 1∧cC w' (.slice (some ⟨b,0,none⟩) 1 1) [⟨bm p.s+1,p.s.term,d⟩]),(31,fun v w'=>∃ A' c',v=.tuple #[.agg #[.int .i64 p.s.b,.int .i64 p.s.t,.slice A' (p.s.es.length+1) c'],.int .i64 0]∧w'.ownsRow w.heap.size 99 3 (.slice A' (p.s.es.length+1) c') (p.s.es.length+1) (dT (fF p.s d).es)),(16,fun v w'=>∃ A' c',v=.tuple #[.agg #[.int .i64 p.s.b,.int .i64 p.s.t,.slice A' (p.s.es.length+1) c'],.int .i64 0]∧w'.ownsRow w.heap.size 99 3 (.slice A' (p.s.es.length+1) c') (p.s.es.length+1) (dT (fF p.s d).es)),(32,fun v w'=>∃ A' c',v=.agg #[.int .i64 p.s.b,.int .i64 p.s.t,.slice A' (p.s.es.length+1) c']∧w'.ownsRow w.heap.size 99 3 (.slice A' (p.s.es.length+1) c') (p.s.es.length+1) (dT (fF p.s d).es)),(33,eqp (.int .i64 0)),(7,fun v w'=>∃ b,v=.pointer (some ⟨b,0,none⟩)∧w.heap.size≤b∧Blk w' b 24 #[.int .i64 0,.int .i64 0,.slice none 0 0])] (by repeat first | exact ct | refine cr ?_ | refine bX ?_) (by kernel_rfl) (by kernel_rfl) ⟨aj _,aj _,aj _,aj _,aj _,aj _,aj _,aj _,aj _,aj _,aj _,aj _,aj _,(fun _ _ _ hF ⟨b,h1,h2⟩=>⟨b,h1,h2.from_ hF⟩),(fun _ _ _ hF ⟨a,b,h1,h2⟩=>⟨a,b,h1,h2.kept_from hF⟩),(fun _ _ _ hF ⟨a,b,h1,h2⟩=>⟨a,b,h1,h2.kept_from hF⟩),(fun _ _ _ hF ⟨a,b,h1,h2⟩=>⟨a,b,h1,h2.kept_from hF⟩),aj _,(fun _ _ _ hF ⟨b,h1,h2,h3⟩=>⟨b,h1,h2,h3.from_ hF⟩),trivial⟩
 case hop=>
  constructor
  ·rintro-w3 D3;exact au (aF (v:=.pointer _) rfl) rfl
  constructor
  ·rintro-w4 D4;rintro _ rfl;exact au (av rfl) rfl
  constructor
  ·rintro-w5 D5;rintro _ rfl;exact au (aa aB rfl) rfl
  constructor
  ·rintro-w6 D6;rintro _ rfl;exact au (aa bn rfl) rfl
  constructor
  ·rintro-w7 D7;rintro _ rfl;exact au (aH (cs:=[.int .i64 p.s.b,.int .i64 p.s.t,.slice E p.s.es.length Ec]) bQ bh rfl (gW (hb.from_ ((ag.rfl_.next E11).next D7)))) rfl
  constructor
  ·rintro-w8 D8;exact au (aF (v:=.int _ _) rfl) rfl
  constructor
  ·rintro-w9 D9;exact au (aF (v:=.pointer _) rfl) rfl
  constructor
  ·rintro-w10 D10;rintro _ rfl;exact au (av rfl) rfl
  constructor
  ·rintro-w11 D11;rintro _ rfl;exact au (aa aB rfl) rfl
  constructor
  ·rintro-w12 D12;rintro _ rfl;exact au (aa bH rfl) rfl
  constructor
  ·rintro-w13 D13;rintro _ rfl;exact au (ar ak rfl (by exact dM (hb.from_ ((ag.rfl_.next E11).next D13)) 3 rfl)) rfl
  constructor
  ·rintro-w14 D14;exact au (aF (v:=.string _) rfl) rfl
  constructor
  ·rintro-w15 D15;rintro _ rfl _ rfl _ rfl;exact au (cl (l:=[(0,.tmp 22),(1,.tmp 27),(2,.tmp 28)]) (mX _ _ _)) rfl
  constructor
  ·rintro-w16 D16;rintro _ rfl;exact oK (qu (l:=[(0,.tmp 29)]) (cells:=#[.int .i64 (bm p.s+1),.int .i64 p.s.term,.string d]) jj rfl rfl (by show Instr.fill _ _ [(0,Value.agg #[.int .i64 (bm p.s+1),.int .i64 p.s.term,.string d])]=_;kernel_rfl)) (ag.rfl_.new _) ⟨_,rfl,xM (e:=⟨bm p.s+1,p.s.term,d⟩) (Blk.new _ _ _)⟩
  constructor
  ·rintro-w17 D17;rintro _ rfl v17_30 ⟨b30,rfl,hl30⟩;refine fL sx ((zi p.s E _ Ec 1 d _ hF hf hd (he.from_ ((ag.rfl_.next E11).next D17)) hl30).mono ?_);rintro v w9 ⟨⟨a,b,rfl,ho⟩,hF9⟩;exact ⟨hF9,a,b,rfl,dW ho (((ag.rfl_.next E11).next D17)).size⟩
  constructor
  ·rintro-w18 D18;rintro v18_31 ⟨A31,c31,rfl,ho31⟩;exact au (aF (v:=.tuple #[_,_]) rfl) ⟨_,_,rfl,ho31⟩
  constructor
  ·rintro-w19 D19;rintro v19_16 ⟨A16,c16,rfl,ho16⟩;exact au (a_ rfl rfl) ⟨_,_,rfl,ho16⟩
  constructor
  ·rintro-w20 D20;rintro v20_16 ⟨A16,c16,rfl,ho16⟩;exact au (a_ rfl rfl) rfl
  constructor
  ·rintro-w21 D21;exact oK (rJ gO) (ag.rfl_.new _) ⟨_,rfl,(((ag.rfl_.next E11).next D21)).size,Blk.new _ _ _⟩
  exact trivial
 case hend=>
  intro w22 D22;rintro _ rfl _ rfl _ rfl _ rfl _ rfl _ rfl _ rfl _ rfl _ rfl _ rfl _ rfl _ rfl _ rfl v30 ⟨b30,rfl,hl30⟩ v31 ⟨A31,c31,rfl,ho31⟩ v16 ⟨A16,c16,rfl,ho16⟩ v32 ⟨A32,c32,rfl,ho32⟩ v33 rfl v7 ⟨b7,rfl,hg7,hk7⟩;show St ..;refine cg (vs:=[_,_,_]) bh rfl rfl (by simp [Value.oneCell']) (hk7) rfl ?_;intro w23 O3 P3;have ho9:=gk ho32 O3 (j7 ho32 hk7 (by decide));refine asi rfl (an (ai (ao (ah (mvi rfl (ab (c6 (bf rfl rfl) rfl) (an (ai (aZ rfl (ah (mvp rfl (ab (aH (cs:=[.int .i64 p.s.b,.int .i64 p.s.t,.slice A32 (p.s.es.length+1) c32]) bQ bh rfl ((P3.from_ ag.rfl_).whole)) ?_))))))))))));refine ab (av rfl) (ab (aa aB rfl) (ab (aa bn rfl) ?_));have hB5:ag w w23:=(((ag.rfl_.next E11).next D22).only O3 (hg7));have ho5:=ho9.kept_from ag.rfl_;refine mD (es:=(fF p.s d).es) (by show _=(p.s.es++[_]).length;rw [List.length_append];rfl) bh rfl rfl (hb.from_ (((ag.rfl_.next E11).next D22).only O3 (hg7))) ?_;intro w24 O5 P5;refine an (ai (ao (ah (mvi rfl (asi rfl (an (ai (aE (bA (v:=.int _ _) rfl rfl ?_)))))))));have hf5:=(hs.f.but (c:=0) (ag.toChg hB5)).log p.s.b p.s.t (l:=(fF p.s d).es) (by show _=(p.s.es++[_]).length;rw [List.length_append];rfl) (dW ho5 (Nat.zero_le _)) (fun q hq=>dN (eO ho32 q hq).1);exact ⟨rfl,((h.put hs (ag.toChg hB5) (.inl (by decide)) hf5 (O5.toChg rfl) P5).2).from_ (ag.rfl_ (a:=w24))⟩
theorem mQ (w0:World) (Z:Nat→Prop) (T g:Nat) (p:Sp) (w:World) (h:aR w0 Z w T g p) (tm:Int) :
 Rt prog 99 [.pointer (some ⟨g,0,none⟩),.int .i64 tm] w (fun v w'=>v=.tuple #[]∧aR w0 Z w' T g ⟨cJ p.s tm,p.out⟩):=by
 obtain ⟨s,out⟩:=p;obtain ⟨tag,a,O,oc,L,hs⟩:=h.ex;obtain ⟨E,Ec,V,Vc,X,Xc,M,Mc,S,Sc,Q,Qc,LL⟩:=a;have hb:Blk w g T (rfV s (⟨E,Ec,V,Vc,X,Xc,M,Mc,S,Sc,Q,Qc,LL⟩:Ra)++[Value.slice O L.length oc]).toArray:=hs.b
 have hll:L.length=out.length:=by
  have h9:=congrArg List.length hs.m.l;rw [List.length_map] at h9;exact h9
 have hB0:ag w w:=ag.rfl_;refine enter (n:=56) Tryz.func99 rfl rfl rfl (ao (ah (mvp rfl (mvp rfl (ab (av rfl) (ab (aa aB rfl) (ab (aa cW rfl) (cN (s':=({ s with role:=0 }:Rf)) (a':=(⟨E,Ec,V,Vc,X,Xc,M,Mc,S,Sc,Q,Qc,LL⟩:Ra)) (v:=.int _ _) bc rfl rfl rfl ((hb.from_ ag.rfl_)) (by exact ⟨by decide,rfl⟩) ?_))))))));intro w1 O0_0 P0_0;have hC1:Chg (fun k=>k=g) w w1:=(ag.toChg hB0).only O0_0 rfl;refine ab (av rfl) (ab (aa aB rfl) (ab (aa d_ rfl) (cN (s':=({ s with role:=0,leader:=0 }:Rf)) (a':=(⟨E,Ec,V,Vc,X,Xc,M,Mc,S,Sc,Q,Qc,LL⟩:Ra)) (v:=.int _ _) bc rfl rfl rfl (P0_0) (by exact ⟨by decide,rfl⟩) ?_)));intro w2 O0_1 P0_1;replace hC1:=hC1.only O0_1 rfl;refine an (ai (ao (ah (mvp rfl (mvp rfl (mvp rfl (mvp rfl (mvp rfl (ab (av rfl) (ab (aa aB rfl) (ab (aa dc rfl) ?_)))))))))));have hM0:ag _ w2:=ag.rfl_;refine cN (s':=({ s with role:=0,leader:=0,votes:=[] }:Rf)) (a':=(⟨E,Ec,none,0,X,Xc,M,Mc,S,Sc,Q,Qc,LL⟩:Ra)) (v:=.slice _ _ _) c_ rfl rfl rfl ((P0_1.from_ ag.rfl_)) (by exact ⟨by decide,rfl⟩) ?_;intro w3 O1_0 P1_0;replace hC1:=(hC1.next (ag.toChg hM0)).only O1_0 rfl;refine ab (av rfl) (ab (aa aB rfl) (ab (aa cQ rfl) (cN (s':=({ s with role:=0,leader:=0,votes:=[],next:=[] }:Rf)) (a':=(⟨E,Ec,none,0,none,0,M,Mc,S,Sc,Q,Qc,LL⟩:Ra)) (v:=.slice _ _ _) c_ rfl rfl rfl (P1_0) (by exact ⟨by decide,rfl⟩) ?_)));intro w4 O1_1 P1_1;replace hC1:=hC1.only O1_1 rfl;refine ab (av rfl) (ab (aa aB rfl) (ab (aa cY rfl) (cN (s':=({ s with role:=0,leader:=0,votes:=[],next:=[],mtch:=[] }:Rf)) (a':=(⟨E,Ec,none,0,none,0,none,0,S,Sc,Q,Qc,LL⟩:Ra)) (v:=.slice _ _ _) c_ rfl rfl rfl (P1_1) (by exact ⟨by decide,rfl⟩) ?_)));intro w5 O1_2 P1_2;replace hC1:=hC1.only O1_2 rfl;refine ab (av rfl) (ab (aa aB rfl) (ab (aa dd rfl) (cN (s':=({ s with role:=0,leader:=0,votes:=[],next:=[],mtch:=[],sent:=[] }:Rf)) (a':=(⟨E,Ec,none,0,none,0,none,0,none,0,Q,Qc,LL⟩:Ra)) (v:=.slice _ _ _) c_ rfl rfl rfl (P1_2) (by exact ⟨by decide,rfl⟩) ?_)));intro w6 O1_3 P1_3;replace hC1:=hC1.only O1_3 rfl;refine ab (av rfl) (ab (aa aB rfl) (ab (aa cf rfl) (cN (s':=({ s with role:=0,leader:=0,votes:=[],next:=[],mtch:=[],sent:=[],reads:=[] }:Rf)) (a':=(⟨E,Ec,none,0,none,0,none,0,none,0,none,0,[]⟩:Ra)) (v:=.slice _ _ _) ji rfl rfl rfl (P1_3) (by exact ⟨by decide,rfl⟩) ?_)));intro w7 O1_4 P1_4;replace hC1:=hC1.only O1_4 rfl;refine an (ai (ao (ah (mvi rfl (mvp rfl (ab (av rfl) (ab (aa aB rfl) (ab (aa bH rfl) (ab (ar ak rfl (by exact (show _=some (Value.int .i64 s.term) from dM (P1_4.from_ ag.rfl_) 3 rfl))) ?_)))))))));refine ab (cq rfl rfl) (an (ai (AT rfl (fun Q8=>?_) (fun Q8=>?_))))
 ·refine ah (mvp rfl (mvp rfl (mvp rfl (mvp rfl (mvi rfl (ab (av rfl) (ab (aa aB rfl) (ab (aa bH rfl) ?_))))))));have hM0:ag _ w7:=ag.rfl_;refine cN (s':=({ s with role:=0,leader:=0,votes:=[],next:=[],mtch:=[],sent:=[],reads:=[],term:=tm }:Rf)) (a':=(⟨E,Ec,none,0,none,0,none,0,none,0,none,0,[]⟩:Ra)) (v:=.int _ _) bc rfl rfl rfl ((P1_4.from_ ag.rfl_)) (by exact ⟨by decide,rfl⟩) ?_;intro w9 O3_0 P3_0;replace hC1:=(hC1.next (ag.toChg hM0)).only O3_0 rfl;refine ab (av rfl) (ab (aa aB rfl) (ab (aa fm rfl) (cN (s':=({ s with role:=0,leader:=0,votes:=[],next:=[],mtch:=[],sent:=[],reads:=[],term:=tm,vote:=0 }:Rf)) (a':=(⟨E,Ec,none,0,none,0,none,0,none,0,none,0,[]⟩:Ra)) (v:=.int _ _) bc rfl rfl rfl (P3_0) (by exact ⟨by decide,rfl⟩) ?_)));intro w10 O3_1 P3_1;replace hC1:=hC1.only O3_1 rfl;refine ab (av rfl) (ab (aa aB rfl) (ab (aa bw rfl) (cN (s':=({ s with role:=0,leader:=0,votes:=[],next:=[],mtch:=[],sent:=[],reads:=[],term:=tm,vote:=0,part:=⟨#[]⟩ }:Rf)) (a':=(⟨E,Ec,none,0,none,0,none,0,none,0,none,0,[]⟩:Ra)) (v:=.string _) ep rfl rfl rfl (P3_1) (by exact ⟨by decide,rfl⟩) ?_)));intro w11 O3_2 P3_2;replace hC1:=hC1.only O3_2 rfl;refine ab (av rfl) (ab (aa aB rfl) (ab (aa cA rfl) (cN (s':=({ s with role:=0,leader:=0,votes:=[],next:=[],mtch:=[],sent:=[],reads:=[],term:=tm,vote:=0,part:=⟨#[]⟩,partOf:=0 }:Rf)) (a':=(⟨E,Ec,none,0,none,0,none,0,none,0,none,0,[]⟩:Ra)) (v:=.int _ _) bc rfl rfl rfl (P3_2) (by exact ⟨by decide,rfl⟩) ?_)));intro w12 O3_3 P3_3;replace hC1:=hC1.only O3_3 rfl;refine an (da (eg rfl (⟨rfl,?_⟩)));have hf1:=hs.f.alone;unfold cJ;simp only
  first
   |(rw [if_pos (show s.term<tm by omega)];exact (h.set (s':=({ s with role:=0,leader:=0,votes:=[],next:=[],mtch:=[],sent:=[],reads:=[],term:=tm,vote:=0,part:=⟨#[]⟩,partOf:=0 }:Rf)) (a':=(⟨E,Ec,none,0,none,0,none,0,none,0,none,0,[]⟩:Ra)) hs hC1 (bo.same hf1 rfl rfl rfl rfl rfl rfl) P3_3).2)
   |(rw [if_neg (show ¬ s.term<tm by omega)];exact (h.set (s':=({ s with role:=0,leader:=0,votes:=[],next:=[],mtch:=[],sent:=[],reads:=[] }:Rf)) (a':=(⟨E,Ec,none,0,none,0,none,0,none,0,none,0,[]⟩:Ra)) hs (hC1.next (ag.toChg ag.rfl_)) (bo.same hf1 rfl rfl rfl rfl rfl rfl) (P1_4.from_ ag.rfl_)).2)
 refine aO (da (eg rfl (⟨rfl,?_⟩)));have hf1:=hs.f.alone;unfold cJ;simp only
 first
  |(rw [if_pos (show s.term<tm by omega)];exact (h.set (s':=({ s with role:=0,leader:=0,votes:=[],next:=[],mtch:=[],sent:=[],reads:=[],term:=tm,vote:=0,part:=⟨#[]⟩,partOf:=0 }:Rf)) (a':=(⟨E,Ec,none,0,none,0,none,0,none,0,none,0,[]⟩:Ra)) hs hC1 (bo.same hf1 rfl rfl rfl rfl rfl rfl) P3_3).2)
  |(rw [if_neg (show ¬ s.term<tm by omega)];exact (h.set (s':=({ s with role:=0,leader:=0,votes:=[],next:=[],mtch:=[],sent:=[],reads:=[] }:Rf)) (a':=(⟨E,Ec,none,0,none,0,none,0,none,0,none,0,[]⟩:Ra)) hs (hC1.next (ag.toChg ag.rfl_)) (bo.same hf1 rfl rfl rfl rfl rfl rfl) (P1_4.from_ ag.rfl_)).2)
theorem Bg (A:Option Addr) (c:Nat) (L:List Int) (w:World) (hr:et iV w A L) (hf:Fit L):Rt prog 115 [.slice A L.length c] w fun v w'=>v=.tuple #[.int .i64 (med L),.int .i64 0]∧ag w w':=
 (xD A c L w hr).mono fun _ _ h=>⟨h.1.elim (fun e=>e.2) (fun e=>absurd hf e.1),h.2⟩
theorem wu (l:List Int) (k:Nat) (v:Int):(l.map iV).set k (iV v)=(l.set k v).map iV:=by rw [List.map_set]
theorem vg (w0:World) (Z:Nat→Prop) (T g:Nat) (s:Rf) (out:List Msg) (w:World) (h:aR w0 Z w T g ⟨s,out⟩) (tag:Nat→Nat) (a:Ra) (O:Option Addr) (oc:Nat) (L:List Msg) (hs:gP w Z T g tag ⟨s,out⟩ a O oc L) (hF:RfF s) (hr:s.role=2) :
 Rt prog 79 [.pointer (some ⟨g,0,none⟩)] w (fun v w'=>v=.tuple #[]∧aR w0 Z w' T g ⟨dA s,out⟩∧∃ tag',gP w' Z T g tag' ⟨dA s,out⟩ a O oc L):=by
 obtain ⟨E,Ec,V,Vc,X,Xc,M,Mc,S,Sc,Q,Qc,LL⟩:=a;have hb:Blk w g T (rfV s (⟨E,Ec,V,Vc,X,Xc,M,Mc,S,Sc,Q,Qc,LL⟩:Ra)++[Value.slice O L.length oc]).toArray:=hs.b
 have hll:L.length=out.length:=by
  have h9:=congrArg List.length hs.m.l;rw [List.length_map] at h9;exact h9
 have hbl:=hF.last;have hlb:dh s.b s.es=bm s:=rfl;have he:cC w (.slice E s.es.length Ec) s.es:=hs.f.rd.e;have hnn:=hF.n;have hid:=hF.i;have hzw:=h.zw;obtain ⟨k,hk⟩:∃ k:Nat,s.id=(k:Int)+1:=⟨(s.id-1).toNat,by omega⟩;have hMl:s.mtch.length=s.nodes.toNat:=by rw [hF.ma.1,jA hr]
 have hkM:k<s.mtch.length:=by omega
 obtain ⟨gM,rfl⟩:∃ q,M=some ⟨q,0,none⟩:=fR (n:=s.mtch.length) (hs.f.m (by decide)).1 (by omega);have hMo:w.ownsRow 0 3 1 (.slice (some ⟨gM,0,none⟩) s.mtch.length Mc) s.mtch.length (s.mtch.map iV):=(hs.f.m (by decide)).1;have hMc:=jM (l:=s.mtch) hMo k hkM;have hFs:=hF.settle hr;have hp1:eK s.mtch s.id (bm s)=s.mtch.set k (bm s):=by unfold eK;rw [show (s.id-1).toNat=k by omega]
 have hfit:Fit (eK s.mtch s.id (bm s)):=⟨by rw [fQ];omega,by rw [fQ];omega,fun x hx=>(hFs.ma.2 x hx).1⟩;have hmed:0≤med (eK s.mtch s.id (bm s))∧med (eK s.mtch s.id (bm s))≤bm s:=hFs.ma.2 _ (uL hfit.1);have hco:=hF.co;refine enter (n:=57) Tryz.func79 rfl rfl rfl (ao ?_);apply bK 16 [(5,eqp _),(6,eqp _),(7,eqp _),(8,eqp _),(9,eqp _),(10,eqp _),(11,eqp _),(12,eqp _),(13,eqp _),(14,eqp _),(15,eqp (.int .i64 (k:Nat))),(16,eqp _),(17,eqp _),(4,eqp _),(18,eqp _),(19,eqp _)] (by repeat first | exact ct | refine cr ?_ | refine bX ?_) (by kernel_rfl) (by kernel_rfl) ⟨aj _,aj _,aj _,aj _,aj _,aj _,aj _,aj _,aj _,aj _,aj _,aj _,aj _,aj _,aj _,aj _,trivial⟩
 case hop=>
  constructor
  ·rintro-w2 D2;exact au (aF (v:=.pointer _) rfl) rfl
  constructor
  ·rintro-w3 D3;rintro _ rfl;exact au (av rfl) rfl
  constructor
  ·rintro-w4 D4;rintro _ rfl;exact au (aa aB rfl) rfl
  constructor
  ·rintro-w5 D5;rintro _ rfl;exact au (aa cY rfl) rfl
  constructor
  ·rintro-w6 D6;rintro _ rfl;exact au (ar bt rfl (by exact dM (hb.from_ (ag.rfl_.next D6)) 16 rfl)) rfl
  constructor
  ·rintro-w7 D7;exact au (aF (v:=.pointer _) rfl) rfl
  constructor
  ·rintro-w8 D8;rintro _ rfl;exact au (av rfl) rfl
  constructor
  ·rintro-w9 D9;rintro _ rfl;exact au (aa aB rfl) rfl
  constructor
  ·rintro-w10 D10;rintro _ rfl;exact au (aa cB rfl) rfl
  constructor
  ·rintro-w11 D11;rintro _ rfl;exact au (ar ak rfl (by exact dM (hb.from_ (ag.rfl_.next D11)) 0 rfl)) rfl
  constructor
  ·rintro-w12 D12;rintro _ rfl;exact au (iY (eJ rfl rfl (by omega)) (bT (by omega))) rfl
  constructor
  ·rintro-w13 D13;exact au (aF (v:=.pointer _) rfl) rfl
  constructor
  ·rintro-w14 D14;rintro _ rfl;refine fL gK ((kH T g s _ _ _ (hb.from_ (ag.rfl_.next D14)) (he.from_ (ag.rfl_.next D14)) hF.lg).mono ?_);rintro v _ ⟨rfl,E14'⟩;exact ⟨E14',rfl⟩
  constructor
  ·rintro-w15 D15;rintro _ rfl;exact au (aF (v:=.tuple _) rfl) rfl
  constructor
  ·rintro-w16 D16;rintro _ rfl;exact au (a_ rfl rfl) rfl
  constructor
  ·rintro-w17 D17;rintro _ rfl;exact au (a_ rfl rfl) rfl
  exact trivial
 case hend=>
  intro w18 D18;rintro _ rfl _ rfl _ rfl _ rfl _ rfl _ rfl _ rfl _ rfl _ rfl _ rfl v15 rfl _ rfl _ rfl _ rfl _ rfl _ rfl;show St ..;refine ab (eu cX rfl rfl (by omega)) ?_;have hB0:ag w w18:=(ag.rfl_.next D18);refine mC (xs:=s.mtch.map iV) bc rfl rfl rfl (hMo.kept_from (ag.rfl_.next D18)) (by omega) ?_;intro w19 O0 P0
  have hMo1:(w19).ownsRow 0 3 1 (.slice (some ⟨gM,0,none⟩) (eK s.mtch s.id (bm s)).length Mc) (eK s.mtch s.id (bm s)).length ((eK s.mtch s.id (bm s)).map iV):=by
   rw [fQ,hp1,←wu];exact P0
  have hgM7:tag gM=3:=(hs.f.m (by decide)).2 gM rfl;have hC1:Chg (fun k=>tag k=3) w w19:=(ag.toChg hB0).only O0 hgM7
  have hb1:Blk w19 g T (rfV ({ s with mtch:=eK s.mtch s.id (bm s) }:Rf) (⟨E,Ec,V,Vc,X,Xc,some ⟨gM,0,none⟩,Mc,S,Sc,Q,Qc,LL⟩:Ra)++[Value.slice O L.length oc]).toArray:=by
   have h9:=(hb.from_ hB0).only O0 (fun e=>by have:=hs.gc;rw [e,hgM7] at this;cases this)
   have e9:rfV ({ s with mtch:=eK s.mtch s.id (bm s) }:Rf) (⟨E,Ec,V,Vc,X,Xc,some ⟨gM,0,none⟩,Mc,S,Sc,Q,Qc,LL⟩:Ra)=rfV s (⟨E,Ec,V,Vc,X,Xc,some ⟨gM,0,none⟩,Mc,S,Sc,Q,Qc,LL⟩:Ra):=by
    unfold rfV;simp only [fQ]
   rw [e9];exact h9
  have hf1:=(hs.f.but hC1).mtch (l:=eK s.mtch s.id (bm s)) rfl hMo1 (fun q hq=>by cases hq;rw [cU (ek hMo _ rfl)];exact hgM7);obtain ⟨hs1,h1⟩:=h.put hs hC1 (.inl (by decide)) hf1 (Chg.rfl_ (U:=fun k=>k=g)) hb1;have he1:cC w19 (.slice E s.es.length Ec) s.es:=hs1.f.rd.e;refine an (ai (ao (ah (mvp rfl (ab (av rfl) (ab (aa aB rfl) (ab (aa cY rfl) (ab (ar bt rfl (by exact dM (hb1.from_ (ag.rfl_ (a:=w19))) 16 rfl)) ?_))))))));refine aC sw (Bg (some ⟨gM,0,none⟩) Mc (eK s.mtch s.id (bm s)) _ ((et.own hMo1).2.from_ (ag.rfl_ (a:=w19))) hfit) ?_;rintro v27 w20 ⟨rfl,E27⟩;refine mvt rfl (ab (a_ rfl rfl) (ab (a_ rfl rfl) (asi rfl (asi rfl (an (ai (ao ?_)))))));by_cases hgt:s.commit<med (eK s.mtch s.id (bm s))
  ·apply bK 22 [(30,eqp _),(31,eqp _),(32,eqp _),(33,eqp _),(34,eqp _),(35,eqp _),(36,eqp _),(37,eqp _),(38,eqp _),(39,eqp _),(40,eqp _),(41,eqp _),(42,eqp _),(43,eqp _),(44,eqp _),(45,eqp _),(46,eqp _),(47,eqp _),(48,eqp _),(49,eqp _),(50,eqp _),(51,eqp _)] (by repeat first | exact ct | refine cr ?_ | refine bX ?_) (by kernel_rfl) (by kernel_rfl) ⟨aj _,aj _,aj _,aj _,aj _,aj _,aj _,aj _,aj _,aj _,aj _,aj _,aj _,aj _,aj _,aj _,aj _,aj _,aj _,aj _,aj _,aj _,trivial⟩
   case hop=>
    constructor
    ·rintro-w22 D22;exact au (aF (v:=.int _ _) rfl) rfl
    constructor
    ·rintro-w23 D23;rintro _ rfl;exact au (c6 (bf rfl rfl) rfl) rfl
    constructor
    ·rintro-w24 D24;rintro _ rfl;exact au (aF (v:=.bool _) rfl) rfl
    constructor
    ·rintro-w25 D25;rintro _ rfl;exact aL rfl (aF (v:=.int _ _) rfl) rfl
    constructor
    ·rintro-w26 D26;rintro _ rfl;exact aL rfl (aF (v:=.pointer _) rfl) rfl
    constructor
    ·rintro-w27 D27;rintro _ rfl _ rfl;exact aL rfl (av rfl) rfl
    constructor
    ·rintro-w28 D28;rintro _ rfl _ rfl;exact aL rfl (aa aB rfl) rfl
    constructor
    ·rintro-w29 D29;rintro _ rfl _ rfl;exact aL rfl (aa bW rfl) rfl
    constructor
    ·rintro-w30 D30;rintro _ rfl _ rfl;exact aL rfl (ar ak rfl (by exact (show _=some (Value.int .i64 s.commit) from dM (hb1.from_ (((ag.rfl_ (a:=w19)).next E27).next D30)) 10 rfl))) rfl
    constructor
    ·rintro-w31 D31;rintro _ rfl _ rfl _ rfl;exact aL rfl (c6 (cq rfl rfl) (decide_eq_true hgt)) rfl
    constructor
    ·rintro-w32 D32;rintro _ rfl _ rfl;exact au (aM (v:=.bool _) rfl rfl) rfl
    constructor
    ·rintro-w33 D33;rintro _ rfl;exact au (aF (v:=.bool _) rfl) rfl
    constructor
    ·rintro-w34 D34;rintro _ rfl;exact aL rfl (aF (v:=.pointer _) rfl) rfl
    constructor
    ·rintro-w35 D35;rintro _ rfl;exact aL rfl (aF (v:=.int _ _) rfl) rfl
    constructor
    ·rintro-w36 D36;rintro _ rfl _ rfl _ rfl;refine oL rfl ki ((od T g ({ s with mtch:=eK s.mtch s.id (bm s) }:Rf) _ _ _ (hb1.from_ (((ag.rfl_ (a:=w19)).next E27).next D36)) (he1.from_ (((ag.rfl_ (a:=w19)).next E27).next D36)) hF.lg (med (eK s.mtch s.id (bm s))) (by show s.b≤_∧_≤bm s;omega)).mono ?_);rintro v _ ⟨rfl,E36'⟩;exact ⟨E36',rfl⟩
    constructor
    ·rintro-w37 D37;rintro _ rfl;exact aL rfl (aF (v:=.pointer _) rfl) rfl
    constructor
    ·rintro-w38 D38;rintro _ rfl _ rfl;exact aL rfl (av rfl) rfl
    constructor
    ·rintro-w39 D39;rintro _ rfl _ rfl;exact aL rfl (aa aB rfl) rfl
    constructor
    ·rintro-w40 D40;rintro _ rfl _ rfl;exact aL rfl (aa bH rfl) rfl
    constructor
    ·rintro-w41 D41;rintro _ rfl _ rfl;exact aL rfl (ar ak rfl (by exact (show _=some (Value.int .i64 s.term) from dM (hb1.from_ (((ag.rfl_ (a:=w19)).next E27).next D41)) 3 rfl))) rfl
    constructor
    ·rintro-w42 D42;rintro _ rfl _ rfl _ rfl;exact aL rfl (bf rfl rfl) rfl
    constructor
    ·rintro-w43 D43;rintro _ rfl _ rfl;exact au (aM (v:=.bool _) rfl rfl) rfl
    exact trivial
   case hend=>
    intro w44 D44;rintro _ rfl _ rfl _ rfl _ rfl _ rfl _ rfl _ rfl _ rfl _ rfl _ rfl _ rfl _ rfl _ rfl _ rfl _ rfl _ rfl _ rfl _ rfl _ rfl _ rfl _ rfl _ rfl;show St ..;refine an (ai (AT rfl (fun Q45=>?_) (fun Q45=>?_)))
    ·refine ah (mvp rfl (mvi rfl (ab (av rfl) (ab (aa aB rfl) (ab (aa bW rfl) ?_)))));have hB3:ag _ w44:=(((ag.rfl_ (a:=w19)).next E27).next D44);refine cN (s':=({ s with mtch:=eK s.mtch s.id (bm s),commit:=med (eK s.mtch s.id (bm s)) }:Rf)) (a':=(⟨E,Ec,V,Vc,X,Xc,some ⟨gM,0,none⟩,Mc,S,Sc,Q,Qc,LL⟩:Ra)) (v:=.int _ _) bc rfl rfl rfl ((hb1.from_ (((ag.rfl_ (a:=w19)).next E27).next D44))) (by exact ⟨by decide,rfl⟩) ?_;intro w46 O3_0 P3_0;refine an (da (eg rfl ?_))
     first
      |(have e9:dA s=({ s with mtch:=eK s.mtch s.id (bm s),commit:=med (eK s.mtch s.id (bm s)) }:Rf):=by unfold dA;simp only;rw [if_pos ⟨hgt,by assumption⟩]
        rw [e9];obtain ⟨hs2,h2⟩:=h1.set (s':=({ s with mtch:=eK s.mtch s.id (bm s),commit:=med (eK s.mtch s.id (bm s)) }:Rf)) (a':=(⟨E,Ec,V,Vc,X,Xc,some ⟨gM,0,none⟩,Mc,S,Sc,Q,Qc,LL⟩:Ra)) hs1 ((ag.toChg hB3).only O3_0 rfl) (bo.same hs1.f rfl rfl rfl rfl rfl rfl) P3_0;exact ⟨rfl,h2,_,hs2⟩)
      |(have e9:dA s=({ s with mtch:=eK s.mtch s.id (bm s) }:Rf):=by unfold dA;simp only;rw [if_neg (fun e=>by first | exact absurd e.2 (by assumption) | exact absurd e.1 hgt)]
        rw [e9];exact ⟨rfl,h1.from_ (ag.rfl_ (a:=w46)),_,hs1.from_ (ag.rfl_ (a:=w46))⟩)
    refine aO (da (eg rfl ?_))
    first
     |(have e9:dA s=({ s with mtch:=eK s.mtch s.id (bm s),commit:=med (eK s.mtch s.id (bm s)) }:Rf):=by unfold dA;simp only;rw [if_pos ⟨hgt,by assumption⟩]
       rw [e9];obtain ⟨hs2,h2⟩:=h1.set (s':=({ s with mtch:=eK s.mtch s.id (bm s),commit:=med (eK s.mtch s.id (bm s)) }:Rf)) (a':=(⟨E,Ec,V,Vc,X,Xc,some ⟨gM,0,none⟩,Mc,S,Sc,Q,Qc,LL⟩:Ra)) hs1 ((ag.toChg hB3).only O3_0 rfl) (bo.same hs1.f rfl rfl rfl rfl rfl rfl) P3_0;exact ⟨rfl,h2,_,hs2⟩)
     |(have e9:dA s=({ s with mtch:=eK s.mtch s.id (bm s) }:Rf):=by unfold dA;simp only;rw [if_neg (fun e=>by first | exact absurd e.2 (by assumption) | exact absurd e.1 hgt)]
       rw [e9];exact ⟨rfl,h1.from_ (((ag.rfl_ (a:=w19)).next E27).next D44),_,hs1.from_ (((ag.rfl_ (a:=w19)).next E27).next D44)⟩)
  apply bK 22 [(30,eqp _),(31,eqp _),(32,eqp _),(33,eqp _),(34,eqp _),(35,eqp _),(36,eqp _),(37,eqp _),(38,eqp _),(39,eqp _),(40,eqp _),(41,eqp _),(42,eqp _),(43,eqp _),(44,eqp _),(45,eqp _),(46,eqp _),(47,eqp _),(48,eqp _),(49,eqp _),(50,eqp _),(51,eqp _)] (by repeat first | exact ct | refine cr ?_ | refine bX ?_) (by kernel_rfl) (by kernel_rfl) ⟨aj _,aj _,aj _,aj _,aj _,aj _,aj _,aj _,aj _,aj _,aj _,aj _,aj _,aj _,aj _,aj _,aj _,aj _,aj _,aj _,aj _,aj _,trivial⟩
  case hop=>
   constructor
   ·rintro-w48 D48;exact au (aF (v:=.int _ _) rfl) rfl
   constructor
   ·rintro-w49 D49;rintro _ rfl;exact au (c6 (bf rfl rfl) rfl) rfl
   constructor
   ·rintro-w50 D50;rintro _ rfl;exact au (aF (v:=.bool _) rfl) rfl
   constructor
   ·rintro-w51 D51;rintro _ rfl;exact aL rfl (aF (v:=.int _ _) rfl) rfl
   constructor
   ·rintro-w52 D52;rintro _ rfl;exact aL rfl (aF (v:=.pointer _) rfl) rfl
   constructor
   ·rintro-w53 D53;rintro _ rfl _ rfl;exact aL rfl (av rfl) rfl
   constructor
   ·rintro-w54 D54;rintro _ rfl _ rfl;exact aL rfl (aa aB rfl) rfl
   constructor
   ·rintro-w55 D55;rintro _ rfl _ rfl;exact aL rfl (aa bW rfl) rfl
   constructor
   ·rintro-w56 D56;rintro _ rfl _ rfl;exact aL rfl (ar ak rfl (by exact (show _=some (Value.int .i64 s.commit) from dM (hb1.from_ (((ag.rfl_ (a:=w19)).next E27).next D56)) 10 rfl))) rfl
   constructor
   ·rintro-w57 D57;rintro _ rfl _ rfl _ rfl;exact aL rfl (cu (cq rfl rfl) (decide_eq_false hgt)) rfl
   constructor
   ·rintro-w58 D58;rintro _ rfl _ rfl;exact au (aM (v:=.bool _) rfl rfl) rfl
   constructor
   ·rintro-w59 D59;rintro _ rfl;exact au (aF (v:=.bool _) rfl) rfl
   constructor
   ·rintro-w60 D60;rintro _ rfl;exact ck rfl rfl rfl
   constructor
   ·rintro-w61 D61;rintro _ rfl;exact ck rfl rfl rfl
   constructor
   ·rintro-w62 D62;rintro _ rfl _ rfl _ rfl;exact ck rfl rfl rfl
   constructor
   ·rintro-w63 D63;rintro _ rfl;exact ck rfl rfl rfl
   constructor
   ·rintro-w64 D64;rintro _ rfl _ rfl;exact ck rfl rfl rfl
   constructor
   ·rintro-w65 D65;rintro _ rfl _ rfl;exact ck rfl rfl rfl
   constructor
   ·rintro-w66 D66;rintro _ rfl _ rfl;exact ck rfl rfl rfl
   constructor
   ·rintro-w67 D67;rintro _ rfl _ rfl;exact ck rfl rfl rfl
   constructor
   ·rintro-w68 D68;rintro _ rfl _ rfl _ rfl;exact ck rfl rfl rfl
   constructor
   ·rintro-w69 D69;rintro _ rfl _ rfl;exact au (ay (v:=.bool _) rfl rfl) rfl
   exact trivial
  case hend=>
   intro w70 D70;rintro _ rfl _ rfl _ rfl _ rfl _ rfl _ rfl _ rfl _ rfl _ rfl _ rfl _ rfl _ rfl _ rfl _ rfl _ rfl _ rfl _ rfl _ rfl _ rfl _ rfl _ rfl _ rfl;show St ..;refine an (ai (bg rfl (aO (da (eg rfl ?_)))))
   first
    |(have e9:dA s=({ s with mtch:=eK s.mtch s.id (bm s),commit:=med (eK s.mtch s.id (bm s)) }:Rf):=by unfold dA;simp only;rw [if_pos ⟨hgt,by assumption⟩]
      rw [e9];obtain ⟨hs2,h2⟩:=h1.set (s':=({ s with mtch:=eK s.mtch s.id (bm s),commit:=med (eK s.mtch s.id (bm s)) }:Rf)) (a':=(⟨E,Ec,V,Vc,X,Xc,some ⟨gM,0,none⟩,Mc,S,Sc,Q,Qc,LL⟩:Ra)) hs1 ((ag.toChg hB3).only O3_0 rfl) (bo.same hs1.f rfl rfl rfl rfl rfl rfl) P3_0;exact ⟨rfl,h2,_,hs2⟩)
    |(have e9:dA s=({ s with mtch:=eK s.mtch s.id (bm s) }:Rf):=by unfold dA;simp only;rw [if_neg (fun e=>by first | exact absurd e.2 (by assumption) | exact absurd e.1 hgt)]
      rw [e9];exact ⟨rfl,h1.from_ (((ag.rfl_ (a:=w19)).next E27).next D70),_,hs1.from_ (((ag.rfl_ (a:=w19)).next E27).next D70)⟩)
end Go.Proofs.YtkpooenofjdpmaaGreat
namespace Go.Proofs.YtkpooenofjdpmaaGreat
open Go.Proofs.Tryz (prog)
open Go.RowKit
abbrev XT (X:Type):=List (Nat×Nat×(X→Value))
abbrev mA {X:Type} (T:XT X) (x:X):List (Nat×Nat×Value):=T.map fun p=>(p.1,p.2.1,p.2.2 x)
theorem qo {X:Type}:∀ {T:XT X} {x:X},mV (T.map fun p=>(p.1,p.2.1))→ke (mA T x)
 |[],_,_=>trivial
 |p::r,x,h=>⟨fun q hq=>by
   obtain ⟨y,hy,rfl⟩:=List.mem_map.1 hq;exact h.1 (y.1,y.2.1) (List.mem_map.2 ⟨y,hy,rfl⟩),qo h.2⟩
def zp {X:Type} (S:Nat→Bool) (x x':X):XT X→Prop
 |[]=>True
 |p::r=>(S p.1=true→p.2.2 x'=p.2.2 x)∧zp S x x' r
theorem uO {X:Type} {S:Nat→Bool} {x x':X}:∀ {T:XT X},zp S x x' T→∀ p∈T,S p.1=true→p.2.2 x'=p.2.2 x
 |_::_,⟨h1,h2⟩,p,hp=>by
  rcases List.mem_cons.1 hp with rfl | hp
  ·exact h1
  ·exact uO h2 p hp
theorem cP {X:Type} {S:Nat→Bool} {x:X}:∀ {T:XT X},zp S x x T
 |[]=>trivial
 |_::_=>⟨fun _=>rfl,cP⟩
section
variable {X:Type} {P:Program} {Q:Exit→Act→World→Prop} {n:Fr} {L L' M:List (Nat×Value)} {w w' w'':World} {l:List Oper} {T:XT X} {I:X→(Nat→Bool)→World→Prop} {S:Nat→Bool} {op:Op} {ty:TypeId} {pos:String} {after:Array Edge} {i d:Nat} {f:X→Value} {x:X}
theorem InvX.get (h:iG L (mA T x) S L') (hp:(i,d,f)∈T) (hs:S i=true):bu L' d=f x:=h.get (i:=i) (d:=d) (List.mem_map.2 ⟨_,hp,rfl⟩) hs
theorem InvX.out {t:Nat} (h:iG L (mA T x) S L') (ht:(T.map fun p=>p.2.1).elem t=false):bu L' t=bu L t:=h.1 t fun p hp e=>by
 obtain ⟨y,hy,rfl⟩:=List.mem_map.1 hp;have:t∈T.map fun p=>p.2.1:=List.mem_map.2 ⟨y,hy,e⟩
 rw [List.elem_eq_mem,decide_eq_false_iff_not] at ht;exact ht this
theorem zU {i:Nat} (h:(T.map fun p=>p.1).elem i=false):∀ p∈T,p.1≠i:=fun p hp e=>by
 rw [List.elem_eq_mem,decide_eq_false_iff_not] at h;exact h (List.mem_map.2 ⟨p,hp,e⟩)
theorem InvX.chg {x':X} (h:iG L (mA T x) S L') (hc:∀ p∈T,S p.1=true→p.2.2 x'=p.2.2 x):iG L (mA T x') S L':=by
 refine ⟨fun t ht=>h.1 t fun p hp=>?_,fun p hp hs=>?_,fun p hp hs=>?_⟩
 ·obtain ⟨y,hy,rfl⟩:=List.mem_map.1 hp;exact ht (y.1,y.2.1,y.2.2 x') (List.mem_map.2 ⟨y,hy,rfl⟩)
 ·obtain ⟨y,hy,rfl⟩:=List.mem_map.1 hp;have:=h.2.1 (y.1,y.2.1,y.2.2 x) (List.mem_map.2 ⟨y,hy,rfl⟩) hs;rw [this];exact (hc y hy hs).symm
 ·obtain ⟨y,hy,rfl⟩:=List.mem_map.1 hp;exact h.2.2 (y.1,y.2.1,y.2.2 x) (List.mem_map.2 ⟨y,hy,rfl⟩) hs
abbrev u0 (P:Program) (n:Fr) (L:List (Nat×Value)) (T:XT X) (I:X→(Nat→Bool)→World→Prop) (S:Nat→Bool) (i:Nat) (o:Oper) (L':List (Nat×Value)) (w':World):Prop:=gD P n o (fun L2 w2=>∃ x,iG L (mA T x) (dH S i) L2∧I x (dH S i) w2) L' w'
theorem cK (M:List (Nat×Value)) (x':X) (hU:mV (T.map fun p=>(p.1,p.2.1))) (hI:iG L (mA T x) S L') (hp:(i,d,f)∈T)
 (hs:dO op=false) (hk:(((⟨some d,op,ty,pos,after,none⟩:Oper).looksAt #[]).all fun t=>(M.map Prod.fst).elem t)=true) (hag:rj L' M) (hr:RO P (ev n M) op w' (f x') w'') (hc:zp S x x' T) (hM:I x' (dH S i) w''):u0 P n L T I S i ⟨some d,op,ty,pos,after,none⟩ L' w':=
 .inl ⟨d,f x',w'',rfl,by rw [jS hs hk hag];exact hr _ _ _ _ _,x',(InvX.chg hI (uO hc)).put (qo hU) (List.mem_map.2 ⟨_,hp,rfl⟩),hM⟩
theorem oo (M:List (Nat×Value)) (hI:iG L (mA T x) S L') (hi:∀ p∈T,p.1≠i)
 (hs:dO op=false) (hk:(((⟨none,op,ty,pos,after,none⟩:Oper).looksAt #[]).all fun t=>(M.map Prod.fst).elem t)=true) (hag:rj L' M) (hr:RS P (ev n M) op w' w'') (hM:I x (dH S i) w''):u0 P n L T I S i ⟨none,op,ty,pos,after,none⟩ L' w':=
 .inr (.inl ⟨w'',rfl,by rw [jS hs hk hag];exact hr _ _ _ _ _,x,hI.skip (fun p hp=>by
  obtain ⟨y,hy,rfl⟩:=List.mem_map.1 hp;exact hi y hy),hM⟩)
def tX (P:Program) (n:Fr) (L:List (Nat×Value)) (T:XT X) (Mu:List Nat) (I:X→(Nat→Bool)→World→Prop) (l:List Oper):Nat→List Oper→Prop
 |_,[]=>True
 |i,o::r=>(∀ S L' w' x,mV (T.map fun p=>(p.1,p.2.1))→(∀ x S i w1 w2,Mu.elem i=false→ag w1 w2→I x S w1→I x (dH S i) w2)→iG L (mA T x) S L'→I x S w'→ik l S→S i=false→iS S o.after.toList→u0 P n L T I S i o L' w')∧tX P n L T Mu I l (i+1) r
theorem pF {Mu:List Nat} {L0:List (Nat×Value)} {l0:List Oper}:∀ {r:List Oper} {k:Nat},tX P n L0 T Mu I l0 k r→mV (T.map fun p=>(p.1,p.2.1))→(∀ x S i w1 w2,Mu.elem i=false→ag w1 w2→I x S w1→I x (dH S i) w2)→∀ (i:Nat) (o:Oper),r[i]? =some o→∀ S L' w' x,iG L0 (mA T x) S L'→I x S w'→ik l0 S→S (k+i)=false→iS S o.after.toList→u0 P n L0 T I S (k+i) o L' w'
 |[],_,_,_,_,i,o,h=>by simp at h
 |y::r,k,⟨h1,h2⟩,a,b,0,o,h=>by
  simp only [List.getElem?_cons_zero,Option.some.injEq] at h;subst h;exact fun S L' w' x=>h1 S L' w' x a b
 |y::r,k,⟨h1,h2⟩,a,b,i+1,o,h=>by
  have:=pF h2 a b i o (by simpa using h)
  rwa [show k+1+i=k+(i+1) by omega] at this
theorem xY {id:Nat} (T:XT X) (Mu:List Nat) (I:X→(Nat→Bool)→World→Prop) (hm:P.follows .mixedOrders=true) (hwf:oY l=true) (hlt:(T.all fun p=>Nat.blt p.1 l.length)=true) (hU:u_ (T.map fun p=>(p.1,p.2.1))=true) (hme:∀ x S i w1 w2,Mu.elem i=false→ag w1 w2→I x S w1→I x (dH S i) w2) (h0:∃ x,I x (fun _=>false) { w with drawn:=w.drawn+1 })
 (hstep:tX P n L T Mu I l 0 l) (hend:∀ x w',I x (fun i=>decide (i<l.length)) w'→Q .normal (mkA n ((mA T x).map (fun p=>(p.2.1,p.2.2))++L)) w'):Cd P (.region id l.toArray true) Q n L w:=
 tQ (fun S L' w'=>(∃ x,iG L (mA T x) S L'∧I x S w')∧ik l S) hm hwf ⟨let ⟨x,hx⟩:=h0;⟨x,⟨fun _ _=>rfl,fun _ _ h=>(by cases h),fun _ _ _=>rfl⟩,hx⟩,fun _ _ _ h=>by cases h⟩ (fun i o S L' w' ho ⟨⟨x,hI,hM⟩,hC⟩ hS hE=>by
  have:=pF hstep (lT hU) hme i o ho S L' w' x hI hM hC (by rw [Nat.zero_add];exact hS) (kK fun e he=>hE e (by simpa using he));rw [Nat.zero_add] at this;exact gD.mono (fun L2 w2 h=>⟨h,kM hC ho hE⟩) this) fun L' w' ⟨⟨x,hI,hM⟩,_⟩=>by
  have h:=hend x w' hM
  have hlt':∀ p∈mA T x,decide (p.1<l.length)=true:=fun p hp=>by
   obtain ⟨y,hy,rfl⟩:=List.mem_map.1 hp;exact decide_eq_true (Nat.le_of_ble_eq_true (List.all_eq_true.1 hlt y hy))
  rw [yS (qo (lT hU)) hlt' hI];exact h
end
end Go.Proofs.YtkpooenofjdpmaaGreat
namespace Go.Proofs.YtkpooenofjdpmaaGreat
open Go.Proofs.Tryz (prog)
open Go.RowKit
open Go.ChangeShapes Go.WideShapes Go.ChangeAt
theorem lO:xu prog 26=some (3,8,.int .i64 0):=by kernel_rfl
theorem lP:aQ prog 99=true:=by kernel_rfl
theorem ui:aQ prog 75=true:=by kernel_rfl
theorem uh:aQ prog 76=true:=by kernel_rfl
theorem pe:aQ prog 84=true:=by kernel_rfl
theorem ug:aQ prog 79=true:=by kernel_rfl
theorem td {P:Program} {ρ:Operand→Value} {w:World} {t:TypeId} {x y:Operand} {e by_ m:Nat} {z:Value} {kl kc:IntKind} (ht:xu P t=some (e,by_,z)) (hz:z.cells=#[z]) (hx:ρ x=.int kl (m:Nat)) (hy:ρ y=.int kc (m:Nat)) (hm:m≤9223372036854775807) (hb:by_*m≤281474976710656) :
 RO P ρ (.makeSlice t x y) w (.slice (some ⟨w.heap.size,0,none⟩) m m) (w.alloc (.cells (List.replicate m z).toArray e)):=by
 unfold xu at ht;split at ht
 ·rename_i e' hu;cases hi:P.info? e' with
  |none=>simp [hi] at ht
  |some i=>
   rw [hi] at ht;simp only [Option.bind_some] at ht;split at ht
   ·rename_i hs;cases hzz:i.zero with
    |none=>simp [hzz] at ht
    |some z'=>
     simp only [hzz,Option.map_some,Option.some.injEq,Prod.mk.injEq] at ht;obtain ⟨rfl,rfl,rfl⟩:=ht
     have hr:=run_make (P:=P) w t e' i z' hu hi hzz kl kc (m:Int) (m:Int) (by omega) (Int.le_refl _) (by
      have:((i.bytes*m:Nat):Int)≤281474976710656:=by omega
      rwa [Int.natCast_mul] at this) (by omega)
     have hcells:madeCells z'.cells ((m:Int).toNat*i.size)=(List.replicate m z').toArray:=by
      rw [hs,Int.toNat_natCast,Nat.mul_one,hz];apply Array.ext_getElem?;intro j;simp only [madeCells,Array.getElem?_map];by_cases hj:j<m
      ·simp [hj,Nat.mod_one]
      ·simp [hj]
     rw [hcells,Int.toNat_natCast] at hr;exact fun _ _ _ _ _=>by simp [execOp,hx,hy,hr]
   ·cases ht
 ·cases ht
structure G3 where
 x:Nat
 m:Nat
 s:Nat
def lv (s:Rf) (a:Ra) (p q r:Value):List Value:=[.int .i64 s.id,.int .i64 s.nodes,.int .i64 s.role,.int .i64 s.term,.int .i64 s.vote,.int .i64 s.leader,.int .i64 s.b,.int .i64 s.t,.slice a.E s.es.length a.Ec,.string s.snap,.int .i64 s.commit,.int .i64 s.elapsed,.int .i64 s.timeout,.int .u64 s.seed,.slice a.V s.votes.length a.Vc,p,q,r,.int .i64 s.round,.slice a.Q a.L.length a.Qc,.string s.part,.int .i64 s.partOf]
def lvX (s:Rf) (a:Ra) (n:Nat) (x:G3) (S:Nat→Bool):List Value:=lv s a (bif S 28 then .slice (some ⟨x.x,0,none⟩) n n else .slice a.X s.next.length a.Xc) (bif S 33 then .slice (some ⟨x.m,0,none⟩) n n else .slice a.M s.mtch.length a.Mc) (bif S 38 then .slice (some ⟨x.s,0,none⟩) n n else .slice a.S s.sent.length a.Sc)
def MK (w0 w:World) (n k:Nat):Prop:=w0.heap.size≤k∧Blk w k 3 (List.replicate n (Value.int .i64 0)).toArray
structure LI (w0:World) (T g n:Nat) (s:Rf) (a:Ra) (R:Value) (x:G3) (S:Nat→Bool) (w:World):Prop where
 c:Chg (fun k=>k=g) w0 w
 b:Blk w g T (lvX s a n x S++[R]).toArray
 h9:S 9=true→MK w0 w n x.x
 h16:S 16=true→MK w0 w n x.m
 h23:S 23=true→MK w0 w n x.s
 a1:S 9=true→S 16=true→x.x≠x.m
 a2:S 9=true→S 23=true→x.x≠x.s
 a3:S 16=true→S 23=true→x.m≠x.s
 lt:g<w0.heap.size
section
variable {w0 w1 w2:World} {T g n i:Nat} {s:Rf} {a:Ra} {R:Value} {x:G3} {S:Nat→Bool}
theorem MK.from_ {k:Nat} (h:MK w0 w1 n k) (hF:ag w1 w2):MK w0 w2 n k:=⟨h.1,h.2.from_ hF⟩
theorem nS {i:Nat} (h28:i≠28) (h33:i≠33) (h38:i≠38):lvX s a n x (dH S i)=lvX s a n x S:=by
 unfold lvX;rw [eZ h28.symm,eZ h33.symm,eZ h38.symm]
theorem LI.rd (h:LI w0 T g n s a R x S w1) (hq:[9,16,23,28,33,38].elem i=false) (hF:ag w1 w2):LI w0 T g n s a R x (dH S i) w2:=by
 have hm:i≠9∧i≠16∧i≠23∧i≠28∧i≠33∧i≠38:=by
  refine ⟨?_,?_,?_,?_,?_,?_⟩ <;> rintro rfl <;> exact absurd hq (by decide)
 obtain ⟨m1,m2,m3,m4,m5,m6⟩:=hm;refine ⟨h.c.next hF.toChg,by rw [nS m4 m5 m6];exact h.b.from_ hF,fun e=>?_,fun e=>?_,fun e=>?_,fun e f=>?_,fun e f=>?_,fun e f=>?_,h.lt⟩
 ·rw [eZ m1.symm] at e;exact (h.h9 e).from_ hF
 ·rw [eZ m2.symm] at e;exact (h.h16 e).from_ hF
 ·rw [eZ m3.symm] at e;exact (h.h23 e).from_ hF
 ·rw [eZ m1.symm] at e;rw [eZ m2.symm] at f;exact h.a1 e f
 ·rw [eZ m1.symm] at e;rw [eZ m3.symm] at f;exact h.a2 e f
 ·rw [eZ m2.symm] at e;rw [eZ m3.symm] at f;exact h.a3 e f
theorem MK.fresh {k:Nat} (h:MK w0 w1 n k):k≠w1.heap.size:=by have:=h.2.lt;omega
theorem LI.mk9 (h:LI w0 T g n s a R x S w1) (h28:S 28=false) (hk:MK w0 w2 n w1.heap.size) (hF:ag w1 w2):LI w0 T g n s a R ⟨w1.heap.size,x.m,x.s⟩ (dH S 9) w2:=by
 refine ⟨h.c.next hF.toChg,?_,fun _=>hk,fun e=>?_,fun e=>?_,fun _ f=>?_,fun _ f=>?_,fun e f=>?_,h.lt⟩
 ·rw [nS (by decide) (by decide) (by decide)];have:=h.b.from_ hF;unfold lvX at this ⊢;rw [h28] at this ⊢;exact this
 ·rw [eZ (by decide)] at e;exact (h.h16 e).from_ hF
 ·rw [eZ (by decide)] at e;exact (h.h23 e).from_ hF
 ·rw [eZ (by decide)] at f;exact (h.h16 f).fresh.symm
 ·rw [eZ (by decide)] at f;exact (h.h23 f).fresh.symm
 ·rw [eZ (by decide)] at e f;exact h.a3 e f
theorem LI.mk16 (h:LI w0 T g n s a R x S w1) (h33:S 33=false) (hk:MK w0 w2 n w1.heap.size) (hF:ag w1 w2):LI w0 T g n s a R ⟨x.x,w1.heap.size,x.s⟩ (dH S 16) w2:=by
 refine ⟨h.c.next hF.toChg,?_,fun e=>?_,fun _=>hk,fun e=>?_,fun e _=>?_,fun e f=>?_,fun _ f=>?_,h.lt⟩
 ·rw [nS (by decide) (by decide) (by decide)];have:=h.b.from_ hF;unfold lvX at this ⊢;rw [h33] at this ⊢;exact this
 ·rw [eZ (by decide)] at e;exact (h.h9 e).from_ hF
 ·rw [eZ (by decide)] at e;exact (h.h23 e).from_ hF
 ·rw [eZ (by decide)] at e;exact (h.h9 e).fresh
 ·rw [eZ (by decide)] at e f;exact h.a2 e f
 ·rw [eZ (by decide)] at f;exact (h.h23 f).fresh.symm
theorem LI.mk23 (h:LI w0 T g n s a R x S w1) (h38:S 38=false) (hk:MK w0 w2 n w1.heap.size) (hF:ag w1 w2):LI w0 T g n s a R ⟨x.x,x.m,w1.heap.size⟩ (dH S 23) w2:=by
 refine ⟨h.c.next hF.toChg,?_,fun e=>?_,fun e=>?_,fun _=>hk,fun e f=>?_,fun e _=>?_,fun e _=>?_,h.lt⟩
 ·rw [nS (by decide) (by decide) (by decide)];have:=h.b.from_ hF;unfold lvX at this ⊢;rw [h38] at this ⊢;exact this
 ·rw [eZ (by decide)] at e;exact (h.h9 e).from_ hF
 ·rw [eZ (by decide)] at e;exact (h.h16 e).from_ hF
 ·rw [eZ (by decide)] at e f;exact h.a1 e f
 ·rw [eZ (by decide)] at e;exact (h.h9 e).fresh
 ·rw [eZ (by decide)] at e;exact (h.h16 e).fresh
theorem MK.only {k:Nat} (h:MK w0 w1 n k) (hO:eM g w1 w2) (hg:g<w0.heap.size):MK w0 w2 n k:=⟨h.1,h.2.only hO (by have:=h.1;omega)⟩
theorem LI.st (h:LI w0 T g n s a R x S w1) (hi:i=28∨i=33∨i=38) (hO:eM g w1 w2) (hb:Blk w2 g T (lvX s a n x (dH S i)++[R]).toArray):LI w0 T g n s a R x (dH S i) w2:=by
 refine ⟨h.c.next (hO.toChg rfl),hb,fun e=>?_,fun e=>?_,fun e=>?_,fun e f=>?_,fun e f=>?_,fun e f=>?_,h.lt⟩
 ·rw [eZ (by omega)] at e;exact (h.h9 e).only hO h.lt
 ·rw [eZ (by omega)] at e;exact (h.h16 e).only hO h.lt
 ·rw [eZ (by omega)] at e;exact (h.h23 e).only hO h.lt
 ·rw [eZ (by omega)] at e f;exact h.a1 e f
 ·rw [eZ (by omega)] at e f;exact h.a2 e f
 ·rw [eZ (by omega)] at e f;exact h.a3 e f
theorem AG {S:Nat→Bool}:(lvX s a n x S++[R]).toArray.setIfInBounds 15 (.slice (some ⟨x.x,0,none⟩) n n)=(lvX s a n x (dH S 28)++[R]).toArray:=by
 unfold lvX;rw [dS,eZ (by decide),eZ (by decide)];rfl
theorem AF {S:Nat→Bool}:(lvX s a n x S++[R]).toArray.setIfInBounds 16 (.slice (some ⟨x.m,0,none⟩) n n)=(lvX s a n x (dH S 33)++[R]).toArray:=by
 unfold lvX;rw [dS,eZ (by decide),eZ (by decide)];rfl
theorem AE {S:Nat→Bool}:(lvX s a n x S++[R]).toArray.setIfInBounds 17 (.slice (some ⟨x.s,0,none⟩) n n)=(lvX s a n x (dH S 38)++[R]).toArray:=by
 unfold lvX;rw [dS,eZ (by decide),eZ (by decide)];rfl
end
theorem qy {w0 w:World} {n k:Nat} (h:MK w0 w n k) (hn:n≤1000):w.ownsRow 0 3 1 (.slice (some ⟨k,0,none⟩) n n) n ((List.replicate n (0:Int)).map iV):=by
 refine tf (Nat.zero_le _) h.2 (Nat.le_refl _) (by unfold maxLen;omega) (by simp) ?_;simp
theorem bo.three {w0 w:World} {g n:Nat} {tag:Nat→Nat} {s:Rf} {a:Ra} {x:G3} (h:bo w0 tag s a) (hC:Chg (fun k=>k=g) w0 w) (hg:tag g=7) (hn:n≤1000) (h1:MK w0 w n x.x) (h2:MK w0 w n x.m) (h3:MK w0 w n x.s) (a1:x.x≠x.m) (a2:x.x≠x.s) (a3:x.m≠x.s) :
 bo w (fun k=>if k<w0.heap.size then tag k else if k=x.x then 2 else if k=x.m then 3 else 4) { s with next:=List.replicate n 0,mtch:=List.replicate n 0,sent:=List.replicate n 0 } { a with X:=some ⟨x.x,0,none⟩,Xc:=n,M:=some ⟨x.m,0,none⟩,Mc:=n,S:=some ⟨x.s,0,none⟩,Sc:=n }:=by
 have hh:=h.chgG hC hg
 have re:∀ {c:Nat} {A:Option Addr},Col tag c A→(∀ k,A.map (·.block)=some k→k<w0.heap.size)→Col (fun k=>if k<w0.heap.size then tag k else if k=x.x then 2 else if k=x.m then 3 else 4) c A:=fun hc hl k hk=>by
  show (if k<w0.heap.size then tag k else _)=_;rw [if_pos (hl k hk)];exact hc k hk
 have l:(List.replicate n (0:Int)).length=n:=List.length_replicate;refine ⟨fun hx=>⟨(hh.e hx).1,re (h.e hx).2 (ek (h.e hx).1)⟩,fun hx=>⟨(hh.v hx).1,re (h.v hx).2 (ek (h.v hx).1)⟩,fun _=>⟨by show World.ownsRow _ _ _ _ (.slice _ (List.replicate n (0:Int)).length _) (List.replicate n (0:Int)).length _;rw [l];exact qy h1 hn,fun k hk=>?_⟩,fun _=>⟨by show World.ownsRow _ _ _ _ (.slice _ (List.replicate n (0:Int)).length _) (List.replicate n (0:Int)).length _;rw [l];exact qy h2 hn,fun k hk=>?_⟩,fun _=>⟨by show World.ownsRow _ _ _ _ (.slice _ (List.replicate n (0:Int)).length _) (List.replicate n (0:Int)).length _;rw [l];exact qy h3 hn,fun k hk=>?_⟩,hh.r,fun hx=>⟨(hh.q hx).1,re (h.q hx).2 (ek (h.q hx).1)⟩,fun i hi hx=>⟨(hh.k i hi hx).1,re (h.k i hi hx).2 (ek (h.k i hi hx).1)⟩⟩
 ·cases hk;have:=h1.1;show (if x.x<w0.heap.size then _ else _)=2;rw [if_neg (by omega),if_pos rfl]
 ·cases hk;have:=h2.1;show (if x.m<w0.heap.size then _ else _)=3;rw [if_neg (by omega),if_neg (Ne.symm a1),if_pos rfl]
 ·cases hk;have:=h3.1;show (if x.s<w0.heap.size then _ else _)=4;rw [if_neg (by omega),if_neg (Ne.symm a2),if_neg (Ne.symm a3)]
theorem aR.three {wa w0 w:World} {Z:Nat→Prop} {T g n oc:Nat} {tag:Nat→Nat} {s:Rf} {out:List Msg} {O:Option Addr} {L:List Msg} {a:Ra} {x:G3} (h:aR wa Z w0 T g ⟨s,out⟩) (hs:gP w0 Z T g tag ⟨s,out⟩ a O oc L) (hC:Chg (fun k=>k=g) w0 w) (hn:n≤1000) (h1:MK w0 w n x.x) (h2:MK w0 w n x.m) (h3:MK w0 w n x.s) (a1:x.x≠x.m) (a2:x.x≠x.s) (a3:x.m≠x.s)
 (hb:Blk w g T (rfV { s with next:=List.replicate n 0,mtch:=List.replicate n 0,sent:=List.replicate n 0 } { a with X:=some ⟨x.x,0,none⟩,Xc:=n,M:=some ⟨x.m,0,none⟩,Mc:=n,S:=some ⟨x.s,0,none⟩,Sc:=n }++[Value.slice O L.length oc]).toArray) :
 aR wa Z w T g ⟨{ s with next:=List.replicate n 0,mtch:=List.replicate n 0,sent:=List.replicate n 0 },out⟩∧∃ tag',gP w Z T g tag' ⟨{ s with next:=List.replicate n 0,mtch:=List.replicate n 0,sent:=List.replicate n 0 },out⟩ { a with X:=some ⟨x.x,0,none⟩,Xc:=n,M:=some ⟨x.m,0,none⟩,Mc:=n,S:=some ⟨x.s,0,none⟩,Sc:=n } O oc L:=by
 have hm:=hs.m.chgG hC hs.gc;have hz:=h.zw
 have re:∀ {c:Nat} {A:Option Addr},Col tag c A→(∀ k,A.map (·.block)=some k→k<w0.heap.size)→Col (fun k=>if k<w0.heap.size then tag k else if k=x.x then 2 else if k=x.m then 3 else 4) c A:=fun hc hl k hk=>by
  show (if k<w0.heap.size then tag k else _)=_;rw [if_pos (hl k hk)];exact hc k hk
 have h9:gP w Z T g (fun k=>if k<w0.heap.size then tag k else if k=x.x then 2 else if k=x.m then 3 else 4) ⟨{ s with next:=List.replicate n 0,mtch:=List.replicate n 0,sent:=List.replicate n 0 },out⟩ { a with X:=some ⟨x.x,0,none⟩,Xc:=n,M:=some ⟨x.m,0,none⟩,Mc:=n,S:=some ⟨x.s,0,none⟩,Sc:=n } O oc L:=
  ⟨hb,hs.f.three hC hs.gc hn h1 h2 h3 a1 a2 a3,⟨hm.o,hm.l,fun j hj=>⟨(hm.e j hj).1,re (hm.e j hj).2 (ek (hs.m.e j hj).1)⟩,re hm.c (ek hs.m.o)⟩,(if_pos hs.b.lt).trans hs.gc,fun k hk=>(if_pos (hz k hk)).trans (hs.z k hk)⟩
 refine ⟨⟨⟨_,_,_,_,_,h9⟩,h.zl,h.fr.next (hC.wide fun k hk=>.inl fun hz1=>?_)⟩,_,h9⟩;have:=hs.z k hz1;rw [show k=g from hk,hs.gc] at this;cases this
theorem bo.novotes {w:World} {tag:Nat→Nat} {s:Rf} {a:Ra} (h:bo w tag s a):bo w tag { s with votes:=[] } { a with V:=none,Vc:=0 }:=
 ⟨fun _=>h.e (by decide),fun _=>⟨du,Col.none⟩,fun _=>h.x (by decide),fun _=>h.m (by decide),fun _=>h.n (by decide),fun _=>h.r (by decide),fun _=>h.q (by decide),fun i hi _=>h.k i hi (by omega)⟩
theorem bo.noreads {w:World} {tag:Nat→Nat} {s:Rf} {a:Ra} (h:bo w tag s a):bo w tag { s with reads:=[] } { a with Q:=none,Qc:=0,L:=[] }:=
 ⟨fun _=>h.e (by decide),fun _=>h.v (by decide),fun _=>h.x (by decide),fun _=>h.m (by decide),fun _=>h.n (by decide),fun _=>rfl,fun _=>⟨du,Col.none⟩,fun i hi _=>absurd hi (Nat.not_lt_zero _)⟩
def iL (n i:Nat) (v:Int):List Int:=List.replicate i v++List.replicate (n-i) 0
theorem rL {n i:Nat} {v:Int} (h:i≤n):(iL n i v).length=n:=by unfold iL;rw [List.length_append,List.length_replicate,List.length_replicate];omega
theorem wI {n i:Nat} {v:Int} (h:i<n):(iL n i v).set i v=iL n (i+1) v:=by
 unfold iL;rw [List.set_append_right _ _ (by rw [List.length_replicate];exact Nat.le_refl _),List.length_replicate,Nat.sub_self,show n-i=(n-(i+1))+1 by omega,List.replicate_succ,List.set_cons_zero,List.replicate_succ',List.append_assoc];rfl
theorem wJ {n:Nat} {v:Int}:iL n 0 v=List.replicate n 0:=by unfold iL;rw [Nat.sub_zero];rfl
theorem zJ {n:Nat} {v:Int}:iL n n v=List.replicate n v:=by unfold iL;rw [Nat.sub_self];simp
theorem yQ (w0:World) (Z:Nat→Prop) (T g:Nat) (p:Sp) (w:World) (h:aR w0 Z w T g p) (hF:RfF p.s) (hl:p.out.length≤700) :
 Rt prog 161 [.pointer (some ⟨g,0,none⟩)] w (fun v w'=>v=.tuple #[]∧aR w0 Z w' T g (mg p)):=by
 obtain ⟨s,out⟩:=p;obtain ⟨tag,a,O,oc,L,hs⟩:=h.ex;obtain ⟨E,Ec,V,Vc,X,Xc,M,Mc,Sn,Sc,Q,Qc,LL⟩:=a;have hb:Blk w g T (rfV s (⟨E,Ec,V,Vc,X,Xc,M,Mc,Sn,Sc,Q,Qc,LL⟩:Ra)++[Value.slice O L.length oc]).toArray:=hs.b
 have hll:L.length=out.length:=by
  have h9:=congrArg List.length hs.m.l;rw [List.length_map] at h9;exact h9
 have hF:RfF s:=hF;have hl:out.length≤700:=hl;have hB0:ag w w:=ag.rfl_;have hbl:=hF.last;have hlb:dh s.b s.es=bm s:=rfl;have he:cC w (.slice E s.es.length Ec) s.es:=hs.f.rd.e;have hnn:=hF.n;have hid:=hF.i;have hzw:=h.zw;obtain ⟨n,hn0⟩:∃ n,n=s.nodes.toNat:=⟨_,rfl⟩;have hn:s.nodes=((n:Nat):Int):=by omega
 refine enter (n:=124) Tryz.func161 rfl rfl rfl (ao (ao (ah (mvp rfl (ab (av rfl) (ab (aa aD rfl) (aC ui (yV T g s _ _ _ (hb.from_ ag.rfl_) (he.from_ ag.rfl_) hF.lg) ?_)))))));rintro v8 w1 ⟨rfl,E8⟩;refine an (ai (aS rfl (fun Q2=>?_) (fun Q2=>?_)))
 ·have h8t:ir s=true:=Q2;refine ao ?_;apply fA [(0,9,fun _ v _=>v=_),(1,10,fun _ v _=>v=_),(2,11,fun _ v _=>v=_),(3,12,fun _ v _=>v=_),(4,13,fun _ v _=>v=_),(5,14,fun _ v _=>v=_),(6,15,fun _ v _=>v=_),(7,16,fun _ v _=>v=_),(8,17,fun _ v _=>v=_),(9,18,fun _ v _=>v=_)] [9] (fun S w'=>(S 9=false→ag w1 w')∧(S 9=true→aR w0 Z w' T g ⟨cJ s s.term,out⟩)) (by kernel_rfl) (by kernel_rfl) rfl rfl ⟨fun _ _ _ _ _ _ _ h=>h,fun _ _ _ _ _ _ _ h=>h,fun _ _ _ _ _ _ _ h=>h,fun _ _ _ _ _ _ _ h=>h,fun _ _ _ _ _ _ _ h=>h,fun _ _ _ _ _ _ _ h=>h,fun _ _ _ _ _ _ _ h=>h,fun _ _ _ _ _ _ _ h=>h,fun _ _ _ _ _ _ _ h=>h,fun _ _ _ _ _ _ _ h=>h,trivial⟩ (fun S i w1 w2 hq hF h=>⟨fun h0=>(h.1 (dY h0)).next hF,fun h1=>(fun h=>h.from_ hF) (h.2 (jr (show 9≠i by rintro rfl;exact absurd hq (by decide)) h1))⟩) ⟨fun _=>ag.rfl_.d1,fun h=>by cases h⟩
  case hstep=>
   constructor
   ·rintro S L' w3 hU hmo hme hI hM hC hS ⟨-⟩;have hS0:S 9=false:=(af hC (j:=9) rfl (by kernel_rfl) (af hC (j:=2) rfl (by kernel_rfl) (af hC (j:=1) rfl (by kernel_rfl) hS)));have hM3:=hM.1 hS0;have e0:=hI.1 0 (dv rfl);exact az [(0,_)] hU hmo hme hI hM (.head _) rfl rfl (by kernel_rfl) ⟨e0,trivial⟩ (aF (v:=.pointer _) rfl) ag.rfl_ (rfl)
   constructor
   ·rintro S L' w4 hU hmo hme hI hM hC hS ⟨d0,-⟩;have hS0:S 9=false:=(af hC (j:=9) rfl (by kernel_rfl) (af hC (j:=2) rfl (by kernel_rfl) hS));have hM4:=hM.1 hS0;obtain ⟨v4_9,e9,h9⟩:=hI.get (i:=0) (.head _) d0;obtain rfl:=h9;exact az [(9,_)] hU hmo hme hI hM (.tail _ (.head _)) rfl rfl (by kernel_rfl) ⟨e9,trivial⟩ (av rfl) ag.rfl_ (rfl)
   constructor
   ·rintro S L' w5 hU hmo hme hI hM hC hS ⟨d1,-⟩;have hS0:S 9=false:=(af hC (j:=9) rfl (by kernel_rfl) hS);have hM5:=hM.1 hS0;obtain ⟨v5_10,e10,h10⟩:=hI.get (i:=1) (.tail _ (.head _)) d1;obtain rfl:=h10;exact az [(10,_)] hU hmo hme hI hM (gM 2 rfl) rfl rfl (by kernel_rfl) ⟨e10,trivial⟩ (aa aD rfl) ag.rfl_ (rfl)
   constructor
   ·rintro S L' w6 hU hmo hme hI hM hC hS ⟨-⟩;have hS0:S 9=false:=(af hC (j:=9) rfl (by kernel_rfl) (af hC (j:=8) rfl (by kernel_rfl) (af hC (j:=7) rfl (by kernel_rfl) (af hC (j:=6) rfl (by kernel_rfl) (af hC (j:=5) rfl (by kernel_rfl) (af hC (j:=4) rfl (by kernel_rfl) hS))))));have hM6:=hM.1 hS0;have e0:=hI.1 0 (dv rfl);exact az [(0,_)] hU hmo hme hI hM (gM 3 rfl) rfl rfl (by kernel_rfl) ⟨e0,trivial⟩ (aF (v:=.pointer _) rfl) ag.rfl_ (rfl)
   constructor
   ·rintro S L' w7 hU hmo hme hI hM hC hS ⟨d3,-⟩;have hS0:S 9=false:=(af hC (j:=9) rfl (by kernel_rfl) (af hC (j:=8) rfl (by kernel_rfl) (af hC (j:=7) rfl (by kernel_rfl) (af hC (j:=6) rfl (by kernel_rfl) (af hC (j:=5) rfl (by kernel_rfl) hS)))));have hM7:=hM.1 hS0;obtain ⟨v7_12,e12,h12⟩:=hI.get (i:=3) (gM 3 rfl) d3;obtain rfl:=h12;exact az [(12,_)] hU hmo hme hI hM (gM 4 rfl) rfl rfl (by kernel_rfl) ⟨e12,trivial⟩ (av rfl) ag.rfl_ (rfl)
   constructor
   ·rintro S L' w8 hU hmo hme hI hM hC hS ⟨d4,-⟩;have hS0:S 9=false:=(af hC (j:=9) rfl (by kernel_rfl) (af hC (j:=8) rfl (by kernel_rfl) (af hC (j:=7) rfl (by kernel_rfl) (af hC (j:=6) rfl (by kernel_rfl) hS))));have hM8:=hM.1 hS0;obtain ⟨v8_13,e13,h13⟩:=hI.get (i:=4) (gM 4 rfl) d4;obtain rfl:=h13;exact az [(13,_)] hU hmo hme hI hM (gM 5 rfl) rfl rfl (by kernel_rfl) ⟨e13,trivial⟩ (aa aD rfl) ag.rfl_ (rfl)
   constructor
   ·rintro S L' w9 hU hmo hme hI hM hC hS ⟨d5,-⟩;have hS0:S 9=false:=(af hC (j:=9) rfl (by kernel_rfl) (af hC (j:=8) rfl (by kernel_rfl) (af hC (j:=7) rfl (by kernel_rfl) hS)));have hM9:=hM.1 hS0;obtain ⟨v9_14,e14,h14⟩:=hI.get (i:=5) (gM 5 rfl) d5;obtain rfl:=h14;exact az [(14,_)] hU hmo hme hI hM (gM 6 rfl) rfl rfl (by kernel_rfl) ⟨e14,trivial⟩ (aa aB rfl) ag.rfl_ (rfl)
   constructor
   ·rintro S L' w10 hU hmo hme hI hM hC hS ⟨d6,-⟩;have hS0:S 9=false:=(af hC (j:=9) rfl (by kernel_rfl) (af hC (j:=8) rfl (by kernel_rfl) hS));have hM10:=hM.1 hS0;obtain ⟨v10_15,e15,h15⟩:=hI.get (i:=6) (gM 6 rfl) d6;obtain rfl:=h15;exact az [(15,_)] hU hmo hme hI hM (gM 7 rfl) rfl rfl (by kernel_rfl) ⟨e15,trivial⟩ (aa bH rfl) ag.rfl_ (rfl)
   constructor
   ·rintro S L' w11 hU hmo hme hI hM hC hS ⟨d7,-⟩;have hS0:S 9=false:=(af hC (j:=9) rfl (by kernel_rfl) hS);have hM11:=hM.1 hS0;obtain ⟨v11_16,e16,h16⟩:=hI.get (i:=7) (gM 7 rfl) d7;obtain rfl:=h16;exact az [(16,_)] hU hmo hme hI hM (gM 8 rfl) rfl rfl (by kernel_rfl) ⟨e16,trivial⟩ (ar ak rfl (by exact (show _=some (Value.int .i64 s.term) from dM (hb.from_ ((ag.rfl_.next E8).next hM11)) 3 rfl))) ag.rfl_ (rfl)
   constructor
   ·rintro S L' w12 hU hmo hme hI hM hC hS ⟨d2,d8,-⟩;have hS0:S 9=false:=hS;have hM12:=hM.1 hS0;obtain ⟨v12_11,e11,h11⟩:=hI.get (i:=2) (gM 2 rfl) d2;obtain rfl:=h11;obtain ⟨v12_17,e17,h17⟩:=hI.get (i:=8) (gM 8 rfl) d8;obtain rfl:=h17;refine dV (al:=[.tmp 11,.tmp 17]) [(11,_),(17,_)] hU hI (gM 9 rfl) (by kernel_rfl) ⟨e11,e17,trivial⟩ lP ((mQ w0 Z T g ⟨s,out⟩ _ (h.from_ ((ag.rfl_.next E8).next hM12)) s.term).mono ?_);rintro v9 w2 ⟨rfl,hS2⟩;exact ⟨⟨fun h0=>(by rw [dS] at h0;cases h0),fun _=>hS2⟩,rfl,⟨fun _ _ _ h=>h,fun _ _ _ h=>h,fun _ _ _ h=>h,fun _ _ _ h=>h,fun _ _ _ h=>h,fun _ _ _ h=>h,fun _ _ _ h=>h,fun _ _ _ h=>h,fun _ _ _ h=>h,fun _ _ _ h=>h,trivial⟩⟩
   exact trivial
  case hend=>
   intro w13 hM;obtain hS9:=hM.2 rfl;rintro v13_9 rfl v13_10 rfl v13_11 rfl v13_12 rfl v13_13 rfl v13_14 rfl v13_15 rfl v13_16 rfl v13_17 rfl v13_18 rfl;refine ef (ai (aE (aG (eg rfl ?_))));unfold mg
   first
    |(rw [if_pos h8t];exact ⟨rfl,hS9.from_ ag.rfl_⟩)
    |(rw [if_neg (by show ¬ ir s=true;rw [h8];decide)]
      refine ⟨rfl,?_⟩;show aR w0 Z _ T g ⟨dA (Sp.all ⟨fF (eB s) ⟨#[]⟩,out⟩).s,(Sp.all ⟨fF (eB s) ⟨#[]⟩,out⟩).out⟩;rw [show (Sp.all ⟨fF (eB s) ⟨#[]⟩,out⟩).s=fF (eB s) ⟨#[]⟩ by rw [mU]];exact h12.from_ (ag.rfl_ (a:=w1)))
 have h8:ir s=false:=by simpa using Q2
 refine aO (ai (ao (ah (mvp rfl (ab (av rfl) (ab (aa aD rfl) (aC gK (kH T g s _ _ _ (hb.from_ (ag.rfl_.next E8)) (he.from_ (ag.rfl_.next E8)) hF.lg) ?_)))))));rintro v23 w14 ⟨rfl,E23⟩;refine mvt rfl (ab (a_ rfl rfl) (ab (a_ rfl rfl) (asi rfl (asi rfl (an (ai (ao (ah (mvp rfl (mvp rfl (mvp rfl ?_)))))))))));refine mvp rfl (mvp rfl (ab (av rfl) (ab (aa aD rfl) (ab (aa aB rfl) (ab (aa cB rfl) (ab (ar ak rfl (by exact (show _=some (Value.int .i64 s.id) from dM (hb.from_ ((ag.rfl_.next E8).next E23)) 0 rfl))) ?_))))));refine ab (av rfl) (ab (aa aD rfl) (ab (aa aB rfl) (ab (aa cW rfl) ?_)));have hB0:ag w w14:=((ag.rfl_.next E8).next E23);refine cN (s':=({ s with role:=2 }:Rf)) (a':=(⟨E,Ec,V,Vc,X,Xc,M,Mc,Sn,Sc,Q,Qc,LL⟩:Ra)) (v:=.int _ _) bc rfl rfl rfl ((hb.from_ ((ag.rfl_.next E8).next E23))) (by exact ⟨by decide,rfl⟩) ?_;intro w15 O3_0 P3_0;have hC1:Chg (fun k=>k=g) w w15:=(ag.toChg hB0).only O3_0 rfl;refine ab (av rfl) (ab (aa aD rfl) (ab (aa aB rfl) (ab (aa d_ rfl) (cN (s':=({ s with role:=2,leader:=s.id }:Rf)) (a':=(⟨E,Ec,V,Vc,X,Xc,M,Mc,Sn,Sc,Q,Qc,LL⟩:Ra)) (v:=.int _ _) bc rfl rfl rfl (P3_0) (by exact ⟨by decide,rfl⟩) ?_))));intro w16 O3_1 P3_1;replace hC1:=hC1.only O3_1 rfl;refine ab (av rfl) (ab (aa aD rfl) (ab (aa aB rfl) (ab (aa dc rfl) (cN (s':=({ s with role:=2,leader:=s.id,votes:=[] }:Rf)) (a':=(⟨E,Ec,none,0,X,Xc,M,Mc,Sn,Sc,Q,Qc,LL⟩:Ra)) (v:=.slice _ _ _) c_ rfl rfl rfl (P3_1) (by exact ⟨by decide,rfl⟩) ?_))));intro w17 O3_2 P3_2;replace hC1:=hC1.only O3_2 rfl;refine ab (av rfl) (ab (aa aD rfl) (ab (aa aB rfl) (ab (aa dp rfl) (cN (s':=({ s with role:=2,leader:=s.id,votes:=[],elapsed:=0 }:Rf)) (a':=(⟨E,Ec,none,0,X,Xc,M,Mc,Sn,Sc,Q,Qc,LL⟩:Ra)) (v:=.int _ _) bc rfl rfl rfl (P3_2) (by exact ⟨by decide,rfl⟩) ?_))));intro w18 O3_3 P3_3;replace hC1:=hC1.only O3_3 rfl;obtain ⟨hs3,h3⟩:=h.set (s':=({ s with role:=2,leader:=s.id,votes:=[],elapsed:=0 }:Rf)) (a':=(⟨E,Ec,none,0,X,Xc,M,Mc,Sn,Sc,Q,Qc,LL⟩:Ra)) hs hC1 (bo.same hs.f.novotes rfl rfl rfl rfl rfl rfl) P3_3;refine an (ai (ao (xY (X:=G3) [(0,52,fun x=>.pointer (some ⟨g,0,none⟩)),(1,53,fun x=>.pointer (some ⟨g,0,none⟩)),(2,54,fun x=>.pointer (some ⟨g,0,none⟩)),(3,55,fun x=>.pointer (some ⟨g,0,none⟩)),(4,56,fun x=>.pointer (some ⟨g,0,none⟩)),(5,57,fun x=>.pointer (some ⟨g,0+0,none⟩)),(6,58,fun x=>.pointer (some ⟨g,0+0+0,none⟩)),(7,59,fun x=>.pointer (some ⟨g,0+0+0+1,none⟩)),(8,60,fun x=>.int .i64 (n:Nat)),(9,61,fun x=>.slice (some ⟨x.x,0,none⟩) n n),(10,62,fun x=>.pointer (some ⟨g,0,none⟩)),(11,63,fun x=>.pointer (some ⟨g,0,none⟩)),(12,64,fun x=>.pointer (some ⟨g,0+0,none⟩)),(13,65,fun x=>.pointer (some ⟨g,0+0+0,none⟩)),(14,66,fun x=>.pointer (some ⟨g,0+0+0+1,none⟩)),(15,67,fun x=>.int .i64 (n:Nat)),(16,68,fun x=>.slice (some ⟨x.m,0,none⟩) n n),(17,69,fun x=>.pointer (some ⟨g,0,none⟩)),(18,70,fun x=>.pointer (some ⟨g,0,none⟩)),(19,71,fun x=>.pointer (some ⟨g,0+0,none⟩)),(20,72,fun x=>.pointer (some ⟨g,0+0+0,none⟩)),(21,73,fun x=>.pointer (some ⟨g,0+0+0+1,none⟩)),(22,74,fun x=>.int .i64 (n:Nat)),(23,75,fun x=>.slice (some ⟨x.s,0,none⟩) n n),(24,76,fun x=>.pointer (some ⟨g,0,none⟩)),(25,77,fun x=>.pointer (some ⟨g,0+0,none⟩)),(26,78,fun x=>.pointer (some ⟨g,0+0+0,none⟩)),(27,79,fun x=>.pointer (some ⟨g,0+0+0+15,none⟩)),(29,80,fun x=>.pointer (some ⟨g,0,none⟩)),(30,81,fun x=>.pointer (some ⟨g,0+0,none⟩)),(31,82,fun x=>.pointer (some ⟨g,0+0+0,none⟩)),(32,83,fun x=>.pointer (some ⟨g,0+0+0+16,none⟩)),(34,84,fun x=>.pointer (some ⟨g,0,none⟩)),(35,85,fun x=>.pointer (some ⟨g,0+0,none⟩)),(36,86,fun x=>.pointer (some ⟨g,0+0+0,none⟩)),(37,87,fun x=>.pointer (some ⟨g,0+0+0+17,none⟩))] [9,16,23,28,33,38] (fun x S w'=>LI w18 T g n ({ s with role:=2,leader:=s.id,votes:=[],elapsed:=0 }:Rf) (⟨E,Ec,none,0,X,Xc,M,Mc,Sn,Sc,Q,Qc,LL⟩:Ra) (Value.slice O L.length oc) x S w') (by kernel_rfl) (by kernel_rfl) rfl rfl (fun x S i w1 w2 hq hF h=>LI.rd h hq hF) (⟨⟨0,0,0⟩,⟨ag.rfl_.d1.toChg,(hs3.b.from_ ((ag.rfl_).d1)),fun h=>(by cases h),fun h=>(by cases h),fun h=>(by cases h),fun h=>(by cases h),fun h=>(by cases h),fun h=>(by cases h),(hs3.b.from_ ag.rfl_).lt⟩⟩) ?_ ?_)))
 ·constructor
  ·rintro S L' w19 x hU hme hI hM hC hS ⟨-⟩;have hM':=hM;obtain ⟨hc19,hb19,u919,u1619,u2319,q119,q219,q319,lt19⟩:=hM';have e0:=InvX.out hI (t:=0) rfl;exact cK [(0,_)] x hU hI (.head _) rfl (by kernel_rfl) ⟨e0,trivial⟩ (aF (v:=.pointer _) rfl) cP (hme _ _ _ _ _ rfl ag.rfl_ hM)
  constructor
  ·rintro S L' w20 x hU hme hI hM hC hS ⟨-,-⟩;have hM':=hM;obtain ⟨hc20,hb20,u920,u1620,u2320,q120,q220,q320,lt20⟩:=hM';have e0:=InvX.out hI (t:=0) rfl;exact cK [(0,_)] x hU hI (.tail _ (.head _)) rfl (by kernel_rfl) ⟨e0,trivial⟩ (aF (v:=.pointer _) rfl) cP (hme _ _ _ _ _ rfl ag.rfl_ hM)
  constructor
  ·rintro S L' w21 x hU hme hI hM hC hS ⟨-,-⟩;have hM':=hM;obtain ⟨hc21,hb21,u921,u1621,u2321,q121,q221,q321,lt21⟩:=hM';have e0:=InvX.out hI (t:=0) rfl;exact cK [(0,_)] x hU hI (gM 2 rfl) rfl (by kernel_rfl) ⟨e0,trivial⟩ (aF (v:=.pointer _) rfl) cP (hme _ _ _ _ _ rfl ag.rfl_ hM)
  constructor
  ·rintro S L' w22 x hU hme hI hM hC hS ⟨-⟩;have hM':=hM;obtain ⟨hc22,hb22,u922,u1622,u2322,q122,q222,q322,lt22⟩:=hM';have e0:=InvX.out hI (t:=0) rfl;exact cK [(0,_)] x hU hI (gM 3 rfl) rfl (by kernel_rfl) ⟨e0,trivial⟩ (aF (v:=.pointer _) rfl) cP (hme _ _ _ _ _ rfl ag.rfl_ hM)
  constructor
  ·rintro S L' w23 x hU hme hI hM hC hS ⟨d3,-⟩;have hM':=hM;obtain ⟨hc23,hb23,u923,u1623,u2323,q123,q223,q323,lt23⟩:=hM';have e55:=InvX.get hI (i:=3) (gM 3 rfl) d3;exact cK [(55,_)] x hU hI (gM 4 rfl) rfl (by kernel_rfl) ⟨e55,trivial⟩ (av rfl) cP (hme _ _ _ _ _ rfl ag.rfl_ hM)
  constructor
  ·rintro S L' w24 x hU hme hI hM hC hS ⟨d4,-⟩;have hM':=hM;obtain ⟨hc24,hb24,u924,u1624,u2324,q124,q224,q324,lt24⟩:=hM';have e56:=InvX.get hI (i:=4) (gM 4 rfl) d4;exact cK [(56,_)] x hU hI (gM 5 rfl) rfl (by kernel_rfl) ⟨e56,trivial⟩ (aa aD rfl) cP (hme _ _ _ _ _ rfl ag.rfl_ hM)
  constructor
  ·rintro S L' w25 x hU hme hI hM hC hS ⟨d5,-⟩;have hM':=hM;obtain ⟨hc25,hb25,u925,u1625,u2325,q125,q225,q325,lt25⟩:=hM';have e57:=InvX.get hI (i:=5) (gM 5 rfl) d5;exact cK [(57,_)] x hU hI (gM 6 rfl) rfl (by kernel_rfl) ⟨e57,trivial⟩ (aa aB rfl) cP (hme _ _ _ _ _ rfl ag.rfl_ hM)
  constructor
  ·rintro S L' w26 x hU hme hI hM hC hS ⟨d6,-⟩;have hM':=hM;obtain ⟨hc26,hb26,u926,u1626,u2326,q126,q226,q326,lt26⟩:=hM';have e58:=InvX.get hI (i:=6) (gM 6 rfl) d6;exact cK [(58,_)] x hU hI (gM 7 rfl) rfl (by kernel_rfl) ⟨e58,trivial⟩ (aa cd rfl) cP (hme _ _ _ _ _ rfl ag.rfl_ hM)
  constructor
  ·rintro S L' w27 x hU hme hI hM hC hS ⟨d7,-⟩;have hM':=hM;obtain ⟨hc27,hb27,u927,u1627,u2327,q127,q227,q327,lt27⟩:=hM';have e59:=InvX.get hI (i:=7) (gM 7 rfl) d7;exact cK [(59,_)] x hU hI (gM 8 rfl) rfl (by kernel_rfl) ⟨e59,trivial⟩ (iY (ar ak rfl (show _=some (Value.int .i64 s.nodes) from hM.b.rd 1 rfl)) (bT hn)) cP (hme _ _ _ _ _ rfl ag.rfl_ hM)
  constructor
  ·rintro S L' w28 x hU hme hI hM hC hS ⟨d8,d8,-⟩;have hM':=hM;obtain ⟨hc28,hb28,u928,u1628,u2328,q128,q228,q328,lt28⟩:=hM';have e60:=InvX.get hI (i:=8) (gM 8 rfl) d8;have h28:S 28=false:=af hC (j:=28) rfl (by kernel_rfl) hS;exact cK [(60,_)] ⟨w28.heap.size,x.m,x.s⟩ hU hI (gM 9 rfl) rfl (by kernel_rfl) ⟨e60,trivial⟩ (td lO rfl rfl rfl (by omega) (by omega)) ⟨fun _=>rfl,fun _=>rfl,fun _=>rfl,fun _=>rfl,fun _=>rfl,fun _=>rfl,fun _=>rfl,fun _=>rfl,fun _=>rfl,fun h=>(by rw [hS] at h;cases h),fun _=>rfl,fun _=>rfl,fun _=>rfl,fun _=>rfl,fun _=>rfl,fun _=>rfl,fun _=>rfl,fun _=>rfl,fun _=>rfl,fun _=>rfl,fun _=>rfl,fun _=>rfl,fun _=>rfl,fun _=>rfl,fun _=>rfl,fun _=>rfl,fun _=>rfl,fun _=>rfl,fun _=>rfl,fun _=>rfl,fun _=>rfl,fun _=>rfl,fun _=>rfl,fun _=>rfl,fun _=>rfl,fun _=>rfl,trivial⟩ (LI.mk9 hM h28 ⟨hM.c.size,Blk.new _ _ _⟩ (ag.rfl_.new _))
  constructor
  ·rintro S L' w29 x hU hme hI hM hC hS ⟨-⟩;have hM':=hM;obtain ⟨hc29,hb29,u929,u1629,u2329,q129,q229,q329,lt29⟩:=hM';have e0:=InvX.out hI (t:=0) rfl;exact cK [(0,_)] x hU hI (gM 10 rfl) rfl (by kernel_rfl) ⟨e0,trivial⟩ (aF (v:=.pointer _) rfl) cP (hme _ _ _ _ _ rfl ag.rfl_ hM)
  constructor
  ·rintro S L' w30 x hU hme hI hM hC hS ⟨d10,-⟩;have hM':=hM;obtain ⟨hc30,hb30,u930,u1630,u2330,q130,q230,q330,lt30⟩:=hM';have e62:=InvX.get hI (i:=10) (gM 10 rfl) d10;exact cK [(62,_)] x hU hI (gM 11 rfl) rfl (by kernel_rfl) ⟨e62,trivial⟩ (av rfl) cP (hme _ _ _ _ _ rfl ag.rfl_ hM)
  constructor
  ·rintro S L' w31 x hU hme hI hM hC hS ⟨d11,-⟩;have hM':=hM;obtain ⟨hc31,hb31,u931,u1631,u2331,q131,q231,q331,lt31⟩:=hM';have e63:=InvX.get hI (i:=11) (gM 11 rfl) d11;exact cK [(63,_)] x hU hI (gM 12 rfl) rfl (by kernel_rfl) ⟨e63,trivial⟩ (aa aD rfl) cP (hme _ _ _ _ _ rfl ag.rfl_ hM)
  constructor
  ·rintro S L' w32 x hU hme hI hM hC hS ⟨d12,-⟩;have hM':=hM;obtain ⟨hc32,hb32,u932,u1632,u2332,q132,q232,q332,lt32⟩:=hM';have e64:=InvX.get hI (i:=12) (gM 12 rfl) d12;exact cK [(64,_)] x hU hI (gM 13 rfl) rfl (by kernel_rfl) ⟨e64,trivial⟩ (aa aB rfl) cP (hme _ _ _ _ _ rfl ag.rfl_ hM)
  constructor
  ·rintro S L' w33 x hU hme hI hM hC hS ⟨d13,-⟩;have hM':=hM;obtain ⟨hc33,hb33,u933,u1633,u2333,q133,q233,q333,lt33⟩:=hM';have e65:=InvX.get hI (i:=13) (gM 13 rfl) d13;exact cK [(65,_)] x hU hI (gM 14 rfl) rfl (by kernel_rfl) ⟨e65,trivial⟩ (aa cd rfl) cP (hme _ _ _ _ _ rfl ag.rfl_ hM)
  constructor
  ·rintro S L' w34 x hU hme hI hM hC hS ⟨d14,-⟩;have hM':=hM;obtain ⟨hc34,hb34,u934,u1634,u2334,q134,q234,q334,lt34⟩:=hM';have e66:=InvX.get hI (i:=14) (gM 14 rfl) d14;exact cK [(66,_)] x hU hI (gM 15 rfl) rfl (by kernel_rfl) ⟨e66,trivial⟩ (iY (ar ak rfl (show _=some (Value.int .i64 s.nodes) from hM.b.rd 1 rfl)) (bT hn)) cP (hme _ _ _ _ _ rfl ag.rfl_ hM)
  constructor
  ·rintro S L' w35 x hU hme hI hM hC hS ⟨d15,d15,-⟩;have hM':=hM;obtain ⟨hc35,hb35,u935,u1635,u2335,q135,q235,q335,lt35⟩:=hM';have e67:=InvX.get hI (i:=15) (gM 15 rfl) d15;have h28:S 33=false:=af hC (j:=33) rfl (by kernel_rfl) hS;exact cK [(67,_)] ⟨x.x,w35.heap.size,x.s⟩ hU hI (gM 16 rfl) rfl (by kernel_rfl) ⟨e67,trivial⟩ (td lO rfl rfl rfl (by omega) (by omega)) ⟨fun _=>rfl,fun _=>rfl,fun _=>rfl,fun _=>rfl,fun _=>rfl,fun _=>rfl,fun _=>rfl,fun _=>rfl,fun _=>rfl,fun _=>rfl,fun _=>rfl,fun _=>rfl,fun _=>rfl,fun _=>rfl,fun _=>rfl,fun _=>rfl,fun h=>(by rw [hS] at h;cases h),fun _=>rfl,fun _=>rfl,fun _=>rfl,fun _=>rfl,fun _=>rfl,fun _=>rfl,fun _=>rfl,fun _=>rfl,fun _=>rfl,fun _=>rfl,fun _=>rfl,fun _=>rfl,fun _=>rfl,fun _=>rfl,fun _=>rfl,fun _=>rfl,fun _=>rfl,fun _=>rfl,fun _=>rfl,trivial⟩ (LI.mk16 hM h28 ⟨hM.c.size,Blk.new _ _ _⟩ (ag.rfl_.new _))
  constructor
  ·rintro S L' w36 x hU hme hI hM hC hS ⟨-⟩;have hM':=hM;obtain ⟨hc36,hb36,u936,u1636,u2336,q136,q236,q336,lt36⟩:=hM';have e0:=InvX.out hI (t:=0) rfl;exact cK [(0,_)] x hU hI (gM 17 rfl) rfl (by kernel_rfl) ⟨e0,trivial⟩ (aF (v:=.pointer _) rfl) cP (hme _ _ _ _ _ rfl ag.rfl_ hM)
  constructor
  ·rintro S L' w37 x hU hme hI hM hC hS ⟨d17,-⟩;have hM':=hM;obtain ⟨hc37,hb37,u937,u1637,u2337,q137,q237,q337,lt37⟩:=hM';have e69:=InvX.get hI (i:=17) (gM 17 rfl) d17;exact cK [(69,_)] x hU hI (gM 18 rfl) rfl (by kernel_rfl) ⟨e69,trivial⟩ (av rfl) cP (hme _ _ _ _ _ rfl ag.rfl_ hM)
  constructor
  ·rintro S L' w38 x hU hme hI hM hC hS ⟨d18,-⟩;have hM':=hM;obtain ⟨hc38,hb38,u938,u1638,u2338,q138,q238,q338,lt38⟩:=hM';have e70:=InvX.get hI (i:=18) (gM 18 rfl) d18;exact cK [(70,_)] x hU hI (gM 19 rfl) rfl (by kernel_rfl) ⟨e70,trivial⟩ (aa aD rfl) cP (hme _ _ _ _ _ rfl ag.rfl_ hM)
  constructor
  ·rintro S L' w39 x hU hme hI hM hC hS ⟨d19,-⟩;have hM':=hM;obtain ⟨hc39,hb39,u939,u1639,u2339,q139,q239,q339,lt39⟩:=hM';have e71:=InvX.get hI (i:=19) (gM 19 rfl) d19;exact cK [(71,_)] x hU hI (gM 20 rfl) rfl (by kernel_rfl) ⟨e71,trivial⟩ (aa aB rfl) cP (hme _ _ _ _ _ rfl ag.rfl_ hM)
  constructor
  ·rintro S L' w40 x hU hme hI hM hC hS ⟨d20,-⟩;have hM':=hM;obtain ⟨hc40,hb40,u940,u1640,u2340,q140,q240,q340,lt40⟩:=hM';have e72:=InvX.get hI (i:=20) (gM 20 rfl) d20;exact cK [(72,_)] x hU hI (gM 21 rfl) rfl (by kernel_rfl) ⟨e72,trivial⟩ (aa cd rfl) cP (hme _ _ _ _ _ rfl ag.rfl_ hM)
  constructor
  ·rintro S L' w41 x hU hme hI hM hC hS ⟨d21,-⟩;have hM':=hM;obtain ⟨hc41,hb41,u941,u1641,u2341,q141,q241,q341,lt41⟩:=hM';have e73:=InvX.get hI (i:=21) (gM 21 rfl) d21;exact cK [(73,_)] x hU hI (gM 22 rfl) rfl (by kernel_rfl) ⟨e73,trivial⟩ (iY (ar ak rfl (show _=some (Value.int .i64 s.nodes) from hM.b.rd 1 rfl)) (bT hn)) cP (hme _ _ _ _ _ rfl ag.rfl_ hM)
  constructor
  ·rintro S L' w42 x hU hme hI hM hC hS ⟨d22,d22,-⟩;have hM':=hM;obtain ⟨hc42,hb42,u942,u1642,u2342,q142,q242,q342,lt42⟩:=hM';have e74:=InvX.get hI (i:=22) (gM 22 rfl) d22;have h28:S 38=false:=af hC (j:=38) rfl (by kernel_rfl) hS;exact cK [(74,_)] ⟨x.x,x.m,w42.heap.size⟩ hU hI (gM 23 rfl) rfl (by kernel_rfl) ⟨e74,trivial⟩ (td lO rfl rfl rfl (by omega) (by omega)) ⟨fun _=>rfl,fun _=>rfl,fun _=>rfl,fun _=>rfl,fun _=>rfl,fun _=>rfl,fun _=>rfl,fun _=>rfl,fun _=>rfl,fun _=>rfl,fun _=>rfl,fun _=>rfl,fun _=>rfl,fun _=>rfl,fun _=>rfl,fun _=>rfl,fun _=>rfl,fun _=>rfl,fun _=>rfl,fun _=>rfl,fun _=>rfl,fun _=>rfl,fun _=>rfl,fun h=>(by rw [hS] at h;cases h),fun _=>rfl,fun _=>rfl,fun _=>rfl,fun _=>rfl,fun _=>rfl,fun _=>rfl,fun _=>rfl,fun _=>rfl,fun _=>rfl,fun _=>rfl,fun _=>rfl,fun _=>rfl,trivial⟩ (LI.mk23 hM h28 ⟨hM.c.size,Blk.new _ _ _⟩ (ag.rfl_.new _))
  constructor
  ·rintro S L' w43 x hU hme hI hM hC hS ⟨d0,d0,-,-,d3,d4,d5,d6,d7,d8,d9,-,-,-,-,-,d15,-,-,-,-,-,-,d22,-,-⟩;have hM':=hM;obtain ⟨hc43,hb43,u943,u1643,u2343,q143,q243,q343,lt43⟩:=hM';have e52:=InvX.get hI (i:=0) (.head _) d0;exact cK [(52,_)] x hU hI (gM 24 rfl) rfl (by kernel_rfl) ⟨e52,trivial⟩ (av rfl) cP (hme _ _ _ _ _ rfl ag.rfl_ hM)
  constructor
  ·rintro S L' w44 x hU hme hI hM hC hS ⟨d24,d0,-,-,d3,d4,d5,d6,d7,d8,d9,-,-,-,-,-,d15,-,-,-,-,-,-,d22,-,-⟩;have hM':=hM;obtain ⟨hc44,hb44,u944,u1644,u2344,q144,q244,q344,lt44⟩:=hM';have e76:=InvX.get hI (i:=24) (gM 24 rfl) d24;exact cK [(76,_)] x hU hI (gM 25 rfl) rfl (by kernel_rfl) ⟨e76,trivial⟩ (aa aD rfl) cP (hme _ _ _ _ _ rfl ag.rfl_ hM)
  constructor
  ·rintro S L' w45 x hU hme hI hM hC hS ⟨d25,d0,-,-,d3,d4,d5,d6,d7,d8,d9,-,-,-,-,-,d15,-,-,-,-,-,-,d22,-,-⟩;have hM':=hM;obtain ⟨hc45,hb45,u945,u1645,u2345,q145,q245,q345,lt45⟩:=hM';have e77:=InvX.get hI (i:=25) (gM 25 rfl) d25;exact cK [(77,_)] x hU hI (gM 26 rfl) rfl (by kernel_rfl) ⟨e77,trivial⟩ (aa aB rfl) cP (hme _ _ _ _ _ rfl ag.rfl_ hM)
  constructor
  ·rintro S L' w46 x hU hme hI hM hC hS ⟨d26,d0,-,-,d3,d4,d5,d6,d7,d8,d9,-,-,-,-,-,d15,-,-,-,-,-,-,d22,-,-⟩;have hM':=hM;obtain ⟨hc46,hb46,u946,u1646,u2346,q146,q246,q346,lt46⟩:=hM';have e78:=InvX.get hI (i:=26) (gM 26 rfl) d26;exact cK [(78,_)] x hU hI (gM 27 rfl) rfl (by kernel_rfl) ⟨e78,trivial⟩ (aa cQ rfl) cP (hme _ _ _ _ _ rfl ag.rfl_ hM)
  constructor
  ·rintro S L' w47 x hU hme hI hM hC hS ⟨d27,d9,d0,-,-,d3,d4,d5,d6,d7,d8,d9,-,-,-,-,-,d15,-,-,-,-,-,-,d22,-,-⟩;have hM':=hM;obtain ⟨hc47,hb47,u947,u1647,u2347,q147,q247,q347,lt47⟩:=hM';have e61:=InvX.get hI (i:=9) (gM 9 rfl) d9;have e79:=InvX.get hI (i:=27) (gM 27 rfl) d27;obtain ⟨w2,hR,hO,hb2⟩:=gV (n:=124) (L:=[(61,_),(79,_)]) (x:=.tmp 79) (y:=.tmp 61) (v:=.slice (some ⟨x.x,0,none⟩) n n) c_ rfl rfl rfl hM.b (show 15<23 by decide)
   have hb3:Blk w2 g T (lvX ({ s with role:=2,leader:=s.id,votes:=[],elapsed:=0 }:Rf) (⟨E,Ec,none,0,X,Xc,M,Mc,Sn,Sc,Q,Qc,LL⟩:Ra) n x (dH S 28)++[Value.slice O L.length oc]).toArray:=by
    rw [←AG];exact hb2
   exact oo [(61,_),(79,_)] hI (zU rfl) rfl (by kernel_rfl) ⟨e61,e79,trivial⟩ hR (LI.st hM (.inl rfl) hO hb3)
  constructor
  ·rintro S L' w48 x hU hme hI hM hC hS ⟨d1,d0,d1,-,d3,d4,d5,d6,d7,d8,d9,d10,d11,d12,d13,d14,d15,d16,-,-,-,-,-,d22,-,d24,d25,d26,d27,d28,-⟩;have hM':=hM;obtain ⟨hc48,hb48,u948,u1648,u2348,q148,q248,q348,lt48⟩:=hM';have e53:=InvX.get hI (i:=1) (.tail _ (.head _)) d1;exact cK [(53,_)] x hU hI (gM 28 rfl) rfl (by kernel_rfl) ⟨e53,trivial⟩ (av rfl) cP (hme _ _ _ _ _ rfl ag.rfl_ hM)
  constructor
  ·rintro S L' w49 x hU hme hI hM hC hS ⟨d29,d0,d1,-,d3,d4,d5,d6,d7,d8,d9,d10,d11,d12,d13,d14,d15,d16,-,-,-,-,-,d22,-,d24,d25,d26,d27,d28,-⟩;have hM':=hM;obtain ⟨hc49,hb49,u949,u1649,u2349,q149,q249,q349,lt49⟩:=hM';have e80:=InvX.get hI (i:=29) (gM 28 rfl) d29;exact cK [(80,_)] x hU hI (gM 29 rfl) rfl (by kernel_rfl) ⟨e80,trivial⟩ (aa aD rfl) cP (hme _ _ _ _ _ rfl ag.rfl_ hM)
  constructor
  ·rintro S L' w50 x hU hme hI hM hC hS ⟨d30,d0,d1,-,d3,d4,d5,d6,d7,d8,d9,d10,d11,d12,d13,d14,d15,d16,-,-,-,-,-,d22,-,d24,d25,d26,d27,d28,-⟩;have hM':=hM;obtain ⟨hc50,hb50,u950,u1650,u2350,q150,q250,q350,lt50⟩:=hM';have e81:=InvX.get hI (i:=30) (gM 29 rfl) d30;exact cK [(81,_)] x hU hI (gM 30 rfl) rfl (by kernel_rfl) ⟨e81,trivial⟩ (aa aB rfl) cP (hme _ _ _ _ _ rfl ag.rfl_ hM)
  constructor
  ·rintro S L' w51 x hU hme hI hM hC hS ⟨d31,d0,d1,-,d3,d4,d5,d6,d7,d8,d9,d10,d11,d12,d13,d14,d15,d16,-,-,-,-,-,d22,-,d24,d25,d26,d27,d28,-⟩;have hM':=hM;obtain ⟨hc51,hb51,u951,u1651,u2351,q151,q251,q351,lt51⟩:=hM';have e82:=InvX.get hI (i:=31) (gM 30 rfl) d31;exact cK [(82,_)] x hU hI (gM 31 rfl) rfl (by kernel_rfl) ⟨e82,trivial⟩ (aa cY rfl) cP (hme _ _ _ _ _ rfl ag.rfl_ hM)
  constructor
  ·rintro S L' w52 x hU hme hI hM hC hS ⟨d32,d16,d28,d0,d1,-,d3,d4,d5,d6,d7,d8,d9,d10,d11,d12,d13,d14,d15,d16,-,-,-,-,-,d22,-,d24,d25,d26,d27,d28,-⟩;have hM':=hM;obtain ⟨hc52,hb52,u952,u1652,u2352,q152,q252,q352,lt52⟩:=hM';have e68:=InvX.get hI (i:=16) (gM 16 rfl) d16;have e83:=InvX.get hI (i:=32) (gM 31 rfl) d32;obtain ⟨w2,hR,hO,hb2⟩:=gV (n:=124) (L:=[(68,_),(83,_)]) (x:=.tmp 83) (y:=.tmp 68) (v:=.slice (some ⟨x.m,0,none⟩) n n) c_ rfl rfl rfl hM.b (show 16<23 by decide)
   have hb3:Blk w2 g T (lvX ({ s with role:=2,leader:=s.id,votes:=[],elapsed:=0 }:Rf) (⟨E,Ec,none,0,X,Xc,M,Mc,Sn,Sc,Q,Qc,LL⟩:Ra) n x (dH S 33)++[Value.slice O L.length oc]).toArray:=by
    rw [←AF];exact hb2
   exact oo [(68,_),(83,_)] hI (zU rfl) rfl (by kernel_rfl) ⟨e68,e83,trivial⟩ hR (LI.st hM (.inr (.inl rfl)) hO hb3)
  constructor
  ·rintro S L' w53 x hU hme hI hM hC hS ⟨d2,d0,d1,d2,d3,d4,d5,d6,d7,d8,d9,d10,d11,d12,d13,d14,d15,d16,d17,d18,d19,d20,d21,d22,d23,d24,d25,d26,d27,d28,d29,d30,d31,d32,d33,-⟩;have hM':=hM;obtain ⟨hc53,hb53,u953,u1653,u2353,q153,q253,q353,lt53⟩:=hM';have e54:=InvX.get hI (i:=2) (gM 2 rfl) d2;exact cK [(54,_)] x hU hI (gM 32 rfl) rfl (by kernel_rfl) ⟨e54,trivial⟩ (av rfl) cP (hme _ _ _ _ _ rfl ag.rfl_ hM)
  constructor
  ·rintro S L' w54 x hU hme hI hM hC hS ⟨d34,d0,d1,d2,d3,d4,d5,d6,d7,d8,d9,d10,d11,d12,d13,d14,d15,d16,d17,d18,d19,d20,d21,d22,d23,d24,d25,d26,d27,d28,d29,d30,d31,d32,d33,-⟩;have hM':=hM;obtain ⟨hc54,hb54,u954,u1654,u2354,q154,q254,q354,lt54⟩:=hM';have e84:=InvX.get hI (i:=34) (gM 32 rfl) d34;exact cK [(84,_)] x hU hI (gM 33 rfl) rfl (by kernel_rfl) ⟨e84,trivial⟩ (aa aD rfl) cP (hme _ _ _ _ _ rfl ag.rfl_ hM)
  constructor
  ·rintro S L' w55 x hU hme hI hM hC hS ⟨d35,d0,d1,d2,d3,d4,d5,d6,d7,d8,d9,d10,d11,d12,d13,d14,d15,d16,d17,d18,d19,d20,d21,d22,d23,d24,d25,d26,d27,d28,d29,d30,d31,d32,d33,-⟩;have hM':=hM;obtain ⟨hc55,hb55,u955,u1655,u2355,q155,q255,q355,lt55⟩:=hM';have e85:=InvX.get hI (i:=35) (gM 33 rfl) d35;exact cK [(85,_)] x hU hI (gM 34 rfl) rfl (by kernel_rfl) ⟨e85,trivial⟩ (aa aB rfl) cP (hme _ _ _ _ _ rfl ag.rfl_ hM)
  constructor
  ·rintro S L' w56 x hU hme hI hM hC hS ⟨d36,d0,d1,d2,d3,d4,d5,d6,d7,d8,d9,d10,d11,d12,d13,d14,d15,d16,d17,d18,d19,d20,d21,d22,d23,d24,d25,d26,d27,d28,d29,d30,d31,d32,d33,-⟩;have hM':=hM;obtain ⟨hc56,hb56,u956,u1656,u2356,q156,q256,q356,lt56⟩:=hM';have e86:=InvX.get hI (i:=36) (gM 34 rfl) d36;exact cK [(86,_)] x hU hI (gM 35 rfl) rfl (by kernel_rfl) ⟨e86,trivial⟩ (aa dd rfl) cP (hme _ _ _ _ _ rfl ag.rfl_ hM)
  constructor
  ·rintro S L' w57 x hU hme hI hM hC hS ⟨d37,d23,d33,d0,d1,d2,d3,d4,d5,d6,d7,d8,d9,d10,d11,d12,d13,d14,d15,d16,d17,d18,d19,d20,d21,d22,d23,d24,d25,d26,d27,d28,d29,d30,d31,d32,d33,-⟩;have hM':=hM;obtain ⟨hc57,hb57,u957,u1657,u2357,q157,q257,q357,lt57⟩:=hM';have e75:=InvX.get hI (i:=23) (gM 23 rfl) d23;have e87:=InvX.get hI (i:=37) (gM 35 rfl) d37;obtain ⟨w2,hR,hO,hb2⟩:=gV (n:=124) (L:=[(75,_),(87,_)]) (x:=.tmp 87) (y:=.tmp 75) (v:=.slice (some ⟨x.s,0,none⟩) n n) c_ rfl rfl rfl hM.b (show 17<23 by decide)
   have hb3:Blk w2 g T (lvX ({ s with role:=2,leader:=s.id,votes:=[],elapsed:=0 }:Rf) (⟨E,Ec,none,0,X,Xc,M,Mc,Sn,Sc,Q,Qc,LL⟩:Ra) n x (dH S 38)++[Value.slice O L.length oc]).toArray:=by
    rw [←AE];exact hb2
   exact oo [(75,_),(87,_)] hI (zU rfl) rfl (by kernel_rfl) ⟨e75,e87,trivial⟩ hR (LI.st hM (.inr (.inr rfl)) hO hb3)
  exact trivial
 ·intro x58 w58 hM;obtain ⟨hc58,hb58,u958,u1658,u2358,q158,q258,q358,lt58⟩:=hM;obtain ⟨xx,xm,xs⟩:=x58;have hbr:=hb58
  have hb4:Blk w58 g T (rfV ({ s with role:=2,leader:=s.id,votes:=[],elapsed:=0,next:=List.replicate n 0,mtch:=List.replicate n 0,sent:=List.replicate n 0 }:Rf) (⟨E,Ec,none,0,some ⟨xx,0,none⟩,n,some ⟨xm,0,none⟩,n,some ⟨xs,0,none⟩,n,Q,Qc,LL⟩:Ra)++[Value.slice O L.length oc]).toArray:=by
   unfold rfV;simp only [List.length_replicate];exact hb58
  obtain ⟨h4,tag4,hs4⟩:=h3.three hs3 hc58 (by omega) (u958 rfl) (u1658 rfl) (u2358 rfl) (q158 rfl rfl) (q258 rfl rfl) (q358 rfl rfl) hb4;refine ai (ao (ao (ah (mvp rfl (ab (av rfl) (ab (aa aD rfl) (ab (aa aB rfl) (ab (aa cQ rfl) (ab (ar bt rfl (by exact (show _=some (Value.slice (some ⟨xx,0,none⟩) n n) from (hbr.from_ ag.rfl_).rd 15 rfl))) ?_)))))))));refine ab (bU cy rfl) (mvi rfl (an (ai (bk (dr (G:=Nat×(Nat→Nat)) [4,96,97,98,99,100,101,102,103,104,105,106,107,108] (fun (i,_)=>[(95,.int .i64 (i:Nat))]) (fun (i,tg) w'=>i≤n∧aR w0 Z w' T g ⟨({ s with role:=2,leader:=s.id,votes:=[],elapsed:=0,next:=iL n i (bm s+1),mtch:=List.replicate n 0,sent:=List.replicate n 0 }:Rf),out⟩∧gP w' Z T g tg ⟨({ s with role:=2,leader:=s.id,votes:=[],elapsed:=0,next:=iL n i (bm s+1),mtch:=List.replicate n 0,sent:=List.replicate n 0 }:Rf),out⟩ (⟨E,Ec,none,0,some ⟨xx,0,none⟩,n,some ⟨xm,0,none⟩,n,some ⟨xs,0,none⟩,n,Q,Qc,LL⟩:Ra) O oc L) (fun (i,_)=>n-i) ((0,tag4)) ⟨rfl,trivial⟩ ?_ ?_)))))
  ·exact ⟨Nat.zero_le _,(by rw [wJ];exact h4.from_ (ag.rfl_ (a:=w58))),(by rw [wJ];exact hs4.from_ (ag.rfl_ (a:=w58)))⟩
  rintro ⟨i,tg⟩ ρ59 w59 ⟨hi,h5,hs5⟩;refine ao (ah (ab (ch rfl rfl) (an (ai (ao (AT rfl (fun Q60=>?_) (fun Q60=>?_)))))))
  ·have hb5:=hs5.b;have hil:(iL n i (bm s+1)).length=n:=rL hi
   have hr15:∀ w9,ag w59 w9→w9.cell? ⟨g,15,none⟩=some (.slice (some ⟨xx,0,none⟩) n n):=fun w9 hF9=>by
    have h9:=dM (hb5.from_ hF9) 15 rfl;rw [show ({ s with role:=2,leader:=s.id,votes:=[],elapsed:=0,next:=iL n i (bm s+1),mtch:=List.replicate n 0,sent:=List.replicate n 0 }:Rf).next.length=n from hil] at h9;exact h9
   have hxo:(w59).ownsRow 0 3 1 (.slice (some ⟨xx,0,none⟩) n n) n ((iL n i (bm s+1)).map iV):=by
    have h9:=(hs5.f.x (by decide)).1;rw [show (Sp.s ⟨({ s with role:=2,leader:=s.id,votes:=[],elapsed:=0,next:=iL n i (bm s+1),mtch:=List.replicate n 0,sent:=List.replicate n 0 }:Rf),out⟩).next.length=n from hil] at h9;exact h9
   refine aO (ai (ao (bk (ao (ah (mvi rfl (asi rfl (an (ai (ah (mvp rfl (ab (av rfl) (ab (aa aD rfl) (ab (aa aB rfl) (ab (aa cQ rfl) ?_)))))))))))))));refine ab (ar bt rfl (by exact hr15 _ (ag.rfl_ (a:=w59)))) ?_;refine mvi rfl (mvi rfl (ab (cn rfl rfl (by omega)) (ab (eu cX rfl rfl (by omega)) ?_)));have hB8:ag _ w59:=(ag.rfl_ (a:=w59));refine mC (xs:=(iL n i (bm s+1)).map iV) bc rfl rfl rfl (hxo.kept_from (ag.rfl_ (a:=w59))) (by omega) ?_;intro w61 O8 P8;have hgx:tg xx=2:=(hs5.f.x (by decide)).2 xx rfl;have hC8:Chg (fun k=>tg k=2) _ w61:=(ag.toChg hB8).only O8 hgx;have hil2:(iL n (i+1) (bm s+1)).length=n:=rL (by omega)
   have hxo8:(w61).ownsRow 0 3 1 (.slice (some ⟨xx,0,none⟩) n n) n ((iL n (i+1) (bm s+1)).map iV):=by
    rw [←wI (by omega),←wu];exact P8
   have hb8:Blk w61 g T (rfV ({ s with role:=2,leader:=s.id,votes:=[],elapsed:=0,next:=iL n (i+1) (bm s+1),mtch:=List.replicate n 0,sent:=List.replicate n 0 }:Rf) (⟨E,Ec,none,0,some ⟨xx,0,none⟩,n,some ⟨xm,0,none⟩,n,some ⟨xs,0,none⟩,n,Q,Qc,LL⟩:Ra)++[Value.slice O L.length oc]).toArray:=by
    have h9:=(hb5.from_ hB8).only O8 (fun e=>by have:=hs5.gc;rw [e,hgx] at this;cases this)
    have e9:rfV ({ s with role:=2,leader:=s.id,votes:=[],elapsed:=0,next:=iL n (i+1) (bm s+1),mtch:=List.replicate n 0,sent:=List.replicate n 0 }:Rf) (⟨E,Ec,none,0,some ⟨xx,0,none⟩,n,some ⟨xm,0,none⟩,n,some ⟨xs,0,none⟩,n,Q,Qc,LL⟩:Ra)=rfV ({ s with role:=2,leader:=s.id,votes:=[],elapsed:=0,next:=iL n i (bm s+1),mtch:=List.replicate n 0,sent:=List.replicate n 0 }:Rf) (⟨E,Ec,none,0,some ⟨xx,0,none⟩,n,some ⟨xm,0,none⟩,n,some ⟨xs,0,none⟩,n,Q,Qc,LL⟩:Ra):=by
     unfold rfV;simp only [hil,hil2]
    rw [e9];exact h9
   have hf8:=(hs5.f.but hC8).next (l:=iL n (i+1) (bm s+1)) hil2.symm hxo8 (fun q hq=>by cases hq;rw [cU (ek hxo _ rfl)];exact hgx);obtain ⟨hs6a,h6⟩:=h5.put (s':=({ s with role:=2,leader:=s.id,votes:=[],elapsed:=0,next:=iL n (i+1) (bm s+1),mtch:=List.replicate n 0,sent:=List.replicate n 0 }:Rf)) (a':=(⟨E,Ec,none,0,some ⟨xx,0,none⟩,n,some ⟨xm,0,none⟩,n,some ⟨xs,0,none⟩,n,Q,Qc,LL⟩:Ra)) hs5 hC8 (.inl (by decide)) hf8 (Chg.rfl_ (U:=fun k=>k=g)) hb8;obtain ⟨tg6,hs6⟩:∃ t,gP w61 Z T g t ⟨({ s with role:=2,leader:=s.id,votes:=[],elapsed:=0,next:=iL n (i+1) (bm s+1),mtch:=List.replicate n 0,sent:=List.replicate n 0 }:Rf),out⟩ (⟨E,Ec,none,0,some ⟨xx,0,none⟩,n,some ⟨xm,0,none⟩,n,some ⟨xs,0,none⟩,n,Q,Qc,LL⟩:Ra) O oc L:=⟨_,hs6a⟩;refine an (bN (ai (ah (ab (cn rfl rfl (by omega)) (mvi rfl (an ?_))))));refine bL ((i+1,tg6)) ⟨(by first | rfl | (refine bT ?_;omega)),trivial⟩ (by (iterate 30 refine bd rfl ?_);exact br) ⟨?_,?_⟩
   ·exact ⟨by omega,h6.from_ (ag.rfl_ (a:=w61)),hs6.from_ (ag.rfl_ (a:=w61))⟩
   ·show n-(i+1)<n-i;omega
  have hin:i=n:=by omega
  rw [hin,zJ] at h5 hs5;have hb7:=hs5.b;refine cL (bB (bB (cw (ai (ao (ah (mvp rfl (ab (av rfl) (ab (aa aD rfl) (ab (aa aB rfl) (ab (aa cf rfl) ?_)))))))))));have hB7:ag _ w59:=(ag.rfl_ (a:=w59));refine cN (s':=({ s with role:=2,leader:=s.id,votes:=[],elapsed:=0,next:=List.replicate n (bm s+1),mtch:=List.replicate n 0,reads:=[],sent:=List.replicate n 0 }:Rf)) (a':=(⟨E,Ec,none,0,some ⟨xx,0,none⟩,n,some ⟨xm,0,none⟩,n,some ⟨xs,0,none⟩,n,none,0,[]⟩:Ra)) (v:=.slice _ _ _) ji rfl rfl rfl ((hb7.from_ (ag.rfl_ (a:=w59)))) (by exact ⟨by decide,rfl⟩) ?_;intro w62 O10_0 P10_0;obtain ⟨hs7,h7a⟩:=h5.set (s':=({ s with role:=2,leader:=s.id,votes:=[],elapsed:=0,next:=List.replicate n (bm s+1),mtch:=List.replicate n 0,reads:=[],sent:=List.replicate n 0 }:Rf)) (a':=(⟨E,Ec,none,0,some ⟨xx,0,none⟩,n,some ⟨xm,0,none⟩,n,some ⟨xs,0,none⟩,n,none,0,[]⟩:Ra)) hs5 ((ag.toChg hB7).only O10_0 rfl) (bo.same hs5.f.noreads rfl rfl rfl rfl rfl rfl) P10_0;rw [hn0] at h7a;have h7:aR w0 Z w62 T g ⟨eB s,out⟩:=h7a;refine an (ai (ao (ah (mvp rfl (ab (av rfl) (ab (aa aD rfl) (aC uh (Ah w0 Z T g ⟨(eB s),out⟩ _ (h7.from_ (ag.rfl_ (a:=w62))) hF.chief h8 ⟨#[]⟩ (by decide)) ?_)))))));rintro v117 w63 ⟨rfl,h9⟩;refine an (ai (ao (ah (mvp rfl (aC pe (oy w0 Z T g ⟨fF (eB s) ⟨#[]⟩,out⟩ _ (h9.from_ (ag.rfl_ (a:=w63))) (hF.lead h8) rfl (show out.length≤800 by omega)) ?_)))));rintro v119 w64 ⟨rfl,h10⟩;refine an (ai (ah (mvp rfl (ab (av rfl) (ab (aa aD rfl) ?_)))))
  have h11:aR w0 Z w64 T g ⟨fF (eB s) ⟨#[]⟩,((⟨fF (eB s) ⟨#[]⟩,out⟩:Sp).all).out⟩:=by
   have e9:(⟨fF (eB s) ⟨#[]⟩,out⟩:Sp).all=⟨fF (eB s) ⟨#[]⟩,((⟨fF (eB s) ⟨#[]⟩,out⟩:Sp).all).out⟩:=by rw [mU]
   rw [←e9];exact h10.from_ (ag.rfl_ (a:=w64))
  obtain ⟨tag11,a11,O11,oc11,L11,hs11⟩:=h11.ex;refine aC ug (vg w0 Z T g (fF (eB s) ⟨#[]⟩) ((⟨fF (eB s) ⟨#[]⟩,out⟩:Sp).all).out _ (h11.from_ (ag.rfl_ (a:=w64))) _ _ _ _ _ (hs11.from_ (ag.rfl_ (a:=w64))) (hF.lead h8) rfl) ?_;rintro v123 w65 ⟨rfl,h12,_⟩;refine an (da (eg rfl ?_));unfold mg
  first
   |(rw [if_pos h8t];exact ⟨rfl,hS9.from_ ag.rfl_⟩)
   |(rw [if_neg (by show ¬ ir s=true;rw [h8];decide)]
     refine ⟨rfl,?_⟩;show aR w0 Z _ T g ⟨dA (Sp.all ⟨fF (eB s) ⟨#[]⟩,out⟩).s,(Sp.all ⟨fF (eB s) ⟨#[]⟩,out⟩).out⟩;rw [show (Sp.all ⟨fF (eB s) ⟨#[]⟩,out⟩).s=fF (eB s) ⟨#[]⟩ by rw [mU]];exact h12.from_ (ag.rfl_ (a:=w65)))
end Go.Proofs.YtkpooenofjdpmaaGreat
namespace Go.Proofs.YtkpooenofjdpmaaGreat
open Go.Proofs.Tryz (prog)
open Go.RowKit
open Go.ChangeShapes Go.WideShapes Go.ChangeAt
theorem sO:aQ prog 86=true:=by kernel_rfl
theorem qW:aQ prog 161=true:=by kernel_rfl
theorem kX:aQ prog 54=true:=by kernel_rfl
theorem jt:∀ (a0:Int) (a1:Int),prog.built 39 [(0,.int .i64 1),(4,.int .i64 a0),(5,.int .i64 a1)]=some #[.int .i64 1,.int .i64 0,.int .i64 0,.int .i64 0,.int .i64 a0,.int .i64 a1,.int .i64 0,.int .i64 0,.bool false,.slice none 0 0,.int .i64 0,.string ⟨#[]⟩,.bool false]:=by intros;kernel_rfl
theorem qX:aQ prog 138=true:=by kernel_rfl
theorem sN:aQ prog 97=true:=by kernel_rfl
def py (s:Rf) (k:Int):Msg:={ zM with k:=1,t:=k,ix:=bm s,lt:=cV s.t s.es }
theorem x7 (s:Rf):∀ (l:List Int) (p:Sp),(l.foldl (fun (p:Sp) k=>p.tell (py s k)) p).s=p.s
 |[],_=>rfl
 |_::l,p=>x7 s l (p.tell _)
theorem o5 (s:Rf):∀ (l:List Int) (p:Sp),(l.foldl (fun (p:Sp) k=>p.tell (py s k)) p).out.length=p.out.length+l.length
 |[],_=>rfl
 |x::l,p=>by
  show (l.foldl _ (p.tell (py s x))).out.length=_;rw [o5 s l (p.tell _)];show (p.out++[_]).length+l.length=p.out.length+(l.length+1);rw [List.length_append,List.length_singleton];omega
theorem x8 {s:Rf} {l:List Int} {i:Nat} (h:i<l.length) (p:Sp):(l.take (i+1)).foldl (fun (p:Sp) k=>p.tell (py s k)) p=((l.take i).foldl (fun (p:Sp) k=>p.tell (py s k)) p).tell (py s l[i]):=by
 rw [List.take_succ_eq_append_getElem h,List.foldl_append];rfl
theorem sc {s:Rf} (h:s.term≠eP):jf s=km ((dJ (eh s)).foldl (fun (p:Sp) k=>p.tell (py (eh s) k)) (⟨eh s,[]⟩:Sp)):=by
 unfold jf;rw [if_neg h];rfl
theorem za {s:Rf} (h:RfF s) (hr:s.role≠2):iD { s with term:=s.term+1,vote:=s.id,role:=1,leader:=0,votes:=[s.id],part:=⟨#[]⟩,partOf:=0 }=eh s:=by
 obtain ⟨h1,h2,h3,h4⟩:=h.free hr;unfold eh iD fD;simp only [h1,h2,h3,h4]
theorem xT (w0:World) (Z:Nat→Prop) (T g:Nat) (p:Sp) (w:World) (h:aR w0 Z w T g p) (hF:RfF p.s) (hl:p.out.length≤700) :
 Rt prog 138 [.pointer (some ⟨g,0,none⟩)] w (fun v w'=>v=.tuple #[]∧aR w0 Z w' T g (km p)):=by
 obtain ⟨s,out⟩:=p;obtain ⟨tag,a,O,oc,L,hs⟩:=h.ex;obtain ⟨E,Ec,V,Vc,X,Xc,M,Mc,Sn,Sc,Q,Qc,LL⟩:=a;have hb:Blk w g T (rfV s (⟨E,Ec,V,Vc,X,Xc,M,Mc,Sn,Sc,Q,Qc,LL⟩:Ra)++[Value.slice O L.length oc]).toArray:=hs.b
 have hll:L.length=out.length:=by
  have h9:=congrArg List.length hs.m.l;rw [List.length_map] at h9;exact h9
 have hF:RfF s:=hF;have hl:out.length≤700:=hl;have hvr:IR w V Vc s.votes:=mL (hs.f.v (by decide)).1;have hvl:=hF.vl;have hnn:=hF.n;refine enter (n:=14) Tryz.func138 rfl rfl rfl (ao ?_);apply bK 10 [(2,eqp _),(3,eqp _),(4,eqp _),(5,eqp _),(6,eqp _),(7,eqp _),(8,eqp _),(9,eqp _),(10,eqp (.slice V s.votes.length Vc)),(11,eqp _)] (by repeat first | exact ct | refine cr ?_ | refine bX ?_) (by kernel_rfl) (by kernel_rfl) ⟨aj _,aj _,aj _,aj _,aj _,aj _,aj _,aj _,aj _,aj _,trivial⟩
 case hop=>
  constructor
  ·rintro-w2 D2;exact au (aF (v:=.pointer _) rfl) rfl
  constructor
  ·rintro-w3 D3;rintro _ rfl;exact au (av rfl) rfl
  constructor
  ·rintro-w4 D4;rintro _ rfl;exact au (aa aD rfl) rfl
  constructor
  ·rintro-w5 D5;exact au (aF (v:=.pointer _) rfl) rfl
  constructor
  ·rintro-w6 D6;rintro _ rfl;exact au (av rfl) rfl
  constructor
  ·rintro-w7 D7;rintro _ rfl;exact au (aa aD rfl) rfl
  constructor
  ·rintro-w8 D8;rintro _ rfl;exact au (aa aB rfl) rfl
  constructor
  ·rintro-w9 D9;rintro _ rfl;exact au (aa dc rfl) rfl
  constructor
  ·rintro-w10 D10;rintro _ rfl;exact au (ar bt rfl (by exact (show _=some (Value.slice V s.votes.length Vc) from dM (hb.from_ (ag.rfl_.next D10)) 14 rfl))) rfl
  constructor
  ·rintro-w11 D11;rintro _ rfl v11_10 rfl;refine fL sO ((tG T g s _ _ _ (hb.from_ (ag.rfl_.next D11)) V Vc s.votes (hvr.1.from_ (ag.rfl_.next D11)) (by omega) hnn).mono ?_);rintro v _ ⟨rfl,E11'⟩;exact ⟨E11',rfl⟩
  exact trivial
 case hend=>
  intro w12 D12;rintro _ rfl _ rfl _ rfl _ rfl _ rfl _ rfl _ rfl _ rfl v10 rfl _ rfl;show St ..;refine an (ai (AT rfl (fun Q13=>?_) (fun Q13=>?_)))
  ·have h11t:fz s.nodes s.votes=true:=by
    unfold fz;exact decide_eq_true Q13
   refine ah (mvp rfl (aC qW (yQ w0 Z T g ⟨s,out⟩ _ (h.from_ (ag.rfl_.next D12)) hF hl) ?_));rintro v13 w14 ⟨rfl,h13⟩;refine an (da (eg rfl ?_));unfold km
   first
    |(rw [if_pos h11t];exact ⟨rfl,h13.from_ (ag.rfl_ (a:=w14))⟩)
    |(rw [if_neg (by show ¬ fz s.nodes s.votes=true;rw [h11f];decide)];exact ⟨rfl,h.from_ (ag.rfl_ (a:=w14))⟩)
  have h11f:fz s.nodes s.votes=false:=by
   unfold fz;exact decide_eq_false (by omega)
  refine aO (da (eg rfl ?_));unfold km
  first
   |(rw [if_pos h11t];exact ⟨rfl,h13.from_ (ag.rfl_.next D12)⟩)
   |(rw [if_neg (by show ¬ fz s.nodes s.votes=true;rw [h11f];decide)];exact ⟨rfl,h.from_ (ag.rfl_.next D12)⟩)
theorem xP (w0:World) (Z:Nat→Prop) (T g:Nat) (s:Rf) (w:World) (h:aR w0 Z w T g ⟨s,[]⟩) (hF:RfF s) (hr:s.role≠2) :
 Rt prog 97 [.pointer (some ⟨g,0,none⟩)] w (fun v w'=>v=.tuple #[]∧aR w0 Z w' T g (jf s)):=by
 obtain ⟨tag,a,O,oc,L,hs⟩:=h.ex;obtain ⟨E,Ec,V,Vc,X,Xc,M,Mc,Sn,Sc,Q,Qc,LL⟩:=a;have hb:Blk w g T (rfV s (⟨E,Ec,V,Vc,X,Xc,M,Mc,Sn,Sc,Q,Qc,LL⟩:Ra)++[Value.slice O L.length oc]).toArray:=hs.b
 have hll:L.length=0:=by
  have h9:=congrArg List.length hs.m.l;rw [List.length_map] at h9;exact h9
 have hB0:ag w w:=ag.rfl_;have hte:=hF.te;refine enter (n:=100) Tryz.func97 rfl rfl rfl (ao (ao (ah (mvp rfl (ab (av rfl) (ab (aa aD rfl) (ab (aa aB rfl) (ab (aa bH rfl) (ab (ar ak rfl (by exact (show _=some (Value.int .i64 s.term) from dM (hb.from_ ag.rfl_) 3 rfl))) ?_)))))))));refine ab (bf rfl rfl) (an (ai (AT rfl (fun Q1=>?_) (fun Q1=>?_))))
 ·have hte8:s.term=eP:=Q1;refine ao (ah (mvp rfl (ab (av rfl) (ab (aa aD rfl) ?_))));have hB16:ag w w:=ag.rfl_;refine aC kX (qG T g s _ _ _ (hb.from_ ag.rfl_)) ?_;rintro v16 w2 ⟨rfl,hb16,hC16⟩;refine an (ai (aE (aG (eg rfl ?_))));unfold jf;rw [if_pos hte8];exact ⟨rfl,((h.set (s':=iD s) hs ((ag.toChg hB16).next hC16) (bo.same hs.f rfl rfl rfl rfl rfl rfl) hb16).2).from_ (ag.rfl_ (a:=w2))⟩
 have hte9:s.term≠eP:=Q1;have hFc:RfF (eh s):=hF.cand hte9;refine aO (ai (ao (ah (mvp rfl (ab (av rfl) (ab (aa aD rfl) (ab (aa aB rfl) (ab (aa bH rfl) (ab (ar ak rfl (by exact (show _=some (Value.int .i64 s.term) from dM (hb.from_ ag.rfl_) 3 rfl))) ?_)))))))));refine ab (cn rfl rfl (by omega)) (ab (av rfl) (ab (aa aD rfl) (ab (aa aB rfl) ?_)));have hB0:ag w w:=ag.rfl_;refine ab (aa bH rfl) (cN (s':=({ s with term:=s.term+1 }:Rf)) (a':=(⟨E,Ec,V,Vc,X,Xc,M,Mc,Sn,Sc,Q,Qc,LL⟩:Ra)) (v:=.int _ _) bc rfl rfl rfl ((hb.from_ ag.rfl_)) (by exact ⟨by decide,rfl⟩) ?_);intro w3 O2_0 P2_0;have hC1:Chg (fun k=>k=g) w w3:=(ag.toChg hB0).only O2_0 rfl;refine an (ai (ao (ah (mvp rfl (mvp rfl (mvp rfl (mvp rfl (ab (av rfl) (ab (aa aD rfl) (ab (aa aB rfl) (ab (aa cB rfl) ?_)))))))))));refine ab (ar ak rfl (by exact (show _=some (Value.int .i64 s.id) from dM (P2_0.from_ (ag.rfl_ (a:=w3))) 0 rfl))) ?_;refine ab (av rfl) (ab (aa aD rfl) (ab (aa aB rfl) ?_));have hM0:ag _ w3:=ag.rfl_;refine ab (aa fm rfl) (cN (s':=({ s with term:=s.term+1,vote:=s.id }:Rf)) (a':=(⟨E,Ec,V,Vc,X,Xc,M,Mc,Sn,Sc,Q,Qc,LL⟩:Ra)) (v:=.int _ _) bc rfl rfl rfl ((P2_0.from_ ag.rfl_)) (by exact ⟨by decide,rfl⟩) ?_);intro w4 O3_0 P3_0;replace hC1:=(hC1.next (ag.toChg hM0)).only O3_0 rfl;refine ab (av rfl) (ab (aa aD rfl) (ab (aa aB rfl) (ab (aa cW rfl) (cN (s':=({ s with term:=s.term+1,vote:=s.id,role:=1 }:Rf)) (a':=(⟨E,Ec,V,Vc,X,Xc,M,Mc,Sn,Sc,Q,Qc,LL⟩:Ra)) (v:=.int _ _) bc rfl rfl rfl (P3_0) (by exact ⟨by decide,rfl⟩) ?_))));intro w5 O3_1 P3_1;replace hC1:=hC1.only O3_1 rfl;refine ab (av rfl) (ab (aa aD rfl) (ab (aa aB rfl) (ab (aa d_ rfl) (cN (s':=({ s with term:=s.term+1,vote:=s.id,role:=1,leader:=0 }:Rf)) (a':=(⟨E,Ec,V,Vc,X,Xc,M,Mc,Sn,Sc,Q,Qc,LL⟩:Ra)) (v:=.int _ _) bc rfl rfl rfl (P3_1) (by exact ⟨by decide,rfl⟩) ?_))));intro w6 O3_2 P3_2;replace hC1:=hC1.only O3_2 rfl;obtain ⟨hs3,h3⟩:=h.set (s':=({ s with term:=s.term+1,vote:=s.id,role:=1,leader:=0 }:Rf)) (a':=(⟨E,Ec,V,Vc,X,Xc,M,Mc,Sn,Sc,Q,Qc,LL⟩:Ra)) hs hC1 (bo.same hs.f rfl rfl rfl rfl rfl rfl) P3_2;have hb3:=P3_2;refine an (ai (ao (ah (mvp rfl (mvp rfl (ab (av rfl) (ab (aa aD rfl) (ab (aa aB rfl) (ab (aa cB rfl) (ab (ar ak rfl (by exact (show _=some (Value.int .i64 s.id) from dM (hb3.from_ (ag.rfl_ (a:=w6))) 0 rfl))) ?_))))))))));have hz55:=((ag.rfl_ (a:=w6))).size;refine fj (v:=.int _ _) bP rfl rfl rfl ?_;intro b56 w7 E56 hb56 hk56;refine ab (av rfl) (ab (aa aD rfl) (ab (aa aB rfl) (ab (aa dc rfl) ?_)));have hB56:ag _ w7:=((ag.rfl_ (a:=w6)).next E56);refine cN (s':=({ s with term:=s.term+1,vote:=s.id,role:=1,leader:=0,votes:=[s.id] }:Rf)) (a':=(⟨E,Ec,some ⟨b56,0,none⟩,1,X,Xc,M,Mc,Sn,Sc,Q,Qc,LL⟩:Ra)) (v:=.slice _ _ _) c_ rfl rfl rfl ((hb3.from_ ((ag.rfl_ (a:=w6)).next E56))) (by exact ⟨by decide,rfl⟩) ?_;intro w8 O4_0 P4_0;have hC4:Chg (fun k=>k=g) _ w8:=Chg.rfl_.only O4_0 rfl;refine an (ai (ao (ah (mvp rfl (mvp rfl (ab (av rfl) (ab (aa aD rfl) (ab (aa aB rfl) ?_))))))));have hM0:ag _ w8:=ag.rfl_;refine ab (aa bw rfl) (cN (s':=({ s with term:=s.term+1,vote:=s.id,role:=1,leader:=0,votes:=[s.id],part:=⟨#[]⟩ }:Rf)) (a':=(⟨E,Ec,some ⟨b56,0,none⟩,1,X,Xc,M,Mc,Sn,Sc,Q,Qc,LL⟩:Ra)) (v:=.string _) ep rfl rfl rfl ((P4_0.from_ ag.rfl_)) (by exact ⟨by decide,rfl⟩) ?_);intro w9 O5_0 P5_0;replace hC4:=(hC4.next (ag.toChg hM0)).only O5_0 rfl;refine ab (av rfl) (ab (aa aD rfl) (ab (aa aB rfl) (ab (aa cA rfl) (cN (s':=({ s with term:=s.term+1,vote:=s.id,role:=1,leader:=0,votes:=[s.id],part:=⟨#[]⟩,partOf:=0 }:Rf)) (a':=(⟨E,Ec,some ⟨b56,0,none⟩,1,X,Xc,M,Mc,Sn,Sc,Q,Qc,LL⟩:Ra)) (v:=.int _ _) bc rfl rfl rfl (P5_0) (by exact ⟨by decide,rfl⟩) ?_))));intro w10 O5_1 P5_1;replace hC4:=hC4.only O5_1 rfl;refine an (ai (ao (ah (mvp rfl (ab (av rfl) (ab (aa aD rfl) ?_))))));have hM74:ag _ w10:=(ag.rfl_ (a:=w10));refine aC kX (qG T g ({ s with term:=s.term+1,vote:=s.id,role:=1,leader:=0,votes:=[s.id],part:=⟨#[]⟩,partOf:=0 }:Rf) (⟨E,Ec,some ⟨b56,0,none⟩,1,X,Xc,M,Mc,Sn,Sc,Q,Qc,LL⟩:Ra) _ _ (P5_1.from_ (ag.rfl_ (a:=w10)))) ?_;rintro v74 w11 ⟨rfl,hb74,hC74⟩;have hf4:=(hs3.f.but (c:=1) (ag.toChg hB56)).votes (l:=[s.id]) rfl (tf (Nat.zero_le _) hk56 (Nat.le_refl _) (by show 1≤maxLen;unfold maxLen;omega) rfl rfl) (fun q hq=>by cases hq;exact dN (by rw [hb56];exact hz55));obtain ⟨hs7,h7⟩:=h3.put (s':=iD ({ s with term:=s.term+1,vote:=s.id,role:=1,leader:=0,votes:=[s.id],part:=⟨#[]⟩,partOf:=0 }:Rf)) (a':=(⟨E,Ec,some ⟨b56,0,none⟩,1,X,Xc,M,Mc,Sn,Sc,Q,Qc,LL⟩:Ra)) hs3 (ag.toChg hB56) (.inl (by decide)) (bo.same hf4 rfl rfl rfl rfl rfl rfl) ((hC4.next (ag.toChg hM74)).next hC74) hb74;rw [za hF hr] at hs7 h7;refine an (ai (ao (ah (mvp rfl (ab (av rfl) (ab (aa aD rfl) (aC gK (kH T g (eh s) _ _ _ (hs7.b.from_ (ag.rfl_ (a:=w11))) (hs7.f.rd.e.from_ (ag.rfl_ (a:=w11))) hFc.lg) ?_)))))));rintro v79 w12 ⟨rfl,E79⟩;refine mvt rfl (ab (a_ rfl rfl) (ab (a_ rfl rfl) (asi rfl (asi rfl (an (ai (ao (ao (ah (mvp rfl (ab (av rfl) (ab (aa aD rfl) ?_))))))))))));have hz84:=(((ag.rfl_ (a:=w11)).next E79)).size;refine aC o_ (pU T g (eh s) _ _ _ (hs7.b.from_ ((ag.rfl_ (a:=w11)).next E79)) (by have:=hFc.n;omega)) ?_;rintro v85 w13 ⟨⟨A85,c85,rfl,ho85⟩,E85⟩
 have h8:=h7.at_ (Z':=fun k=>Z k∨A85.map (·.block)=some k) (((ag.rfl_ (a:=w11)).next E79).next E85) (fun k hk=>by
  have hz7:=((((ag.rfl_ (a:=w11)).next E79).next E85)).size;rcases hk with e | e
  ·exact ⟨Nat.lt_of_lt_of_le (h7.zw k e) hz7,.inl e⟩
  ·have:=eO ho85 k e;exact ⟨this.2,.inr (by omega)⟩)
 have hB7:ag _ w13:=(((ag.rfl_ (a:=w11)).next E79).next E85);have ho7:=ho85;obtain ⟨Z7,hZ7⟩:∃ Z7,Z7=fun k=>Z k∨A85.map (·.block)=some k:=⟨_,rfl⟩
 rw [←hZ7] at h8;have hzi:∀ k,Z k→Z7 k:=fun k hk=>by rw [hZ7];exact .inl hk
 have hzr:∀ k,A85.map (·.block)=some k→Z7 k:=fun k hk=>by rw [hZ7];exact .inr hk
 have hol:=lK (eh s);have hnn:=hFc.n;refine ab (bU cy rfl) (mvi rfl (an (ai (bk (dr (G:=Nat) [5,88,89,90,91,92,93,94,95,96,97] (fun i=>[(87,.int .i64 (i:Nat))]) (fun i w'=>i≤(dJ (eh s)).length∧aR w13 Z7 w' T g (((dJ (eh s)).take i).foldl (fun (p:Sp) k=>p.tell (py (eh s) k)) (⟨eh s,[]⟩:Sp))) (fun i=>(dJ (eh s)).length-i) (0) ⟨rfl,trivial⟩ ?_ ?_)))))
 ·exact ⟨Nat.zero_le _,h8⟩
 rintro i ρ14 w14 ⟨hi,h15⟩;refine ao (ah (ab (ch rfl rfl) (an (ai (ao (AT rfl (fun Q15=>?_) (fun Q15=>?_)))))))
 ·have hi9:i<(dJ (eh s)).length:=by omega
  obtain ⟨g7,rfl⟩:=fR ho7 (by omega);have ho8:=eE ho7 h15.fr (fun q hq e=>e (hzr q hq));have hc8:=jM (l:=(dJ (eh s))) ho8 i hi9;obtain ⟨tg9,a9,O9,oc9,L9,hs9⟩:=h15.ex
  have hl9:L9.length≤7:=by
   have h1:=congrArg List.length hs9.m.l;rw [List.length_map,o5,List.length_take] at h1;have h2:((⟨eh s,[]⟩:Sp).out).length=0:=rfl;omega
  refine aO (ai (ao (bk (ao (ah (ab (eu cX rfl rfl (by omega)) (ab (ar ak rfl (by exact fy (ag.rfl_ (a:=w14)) hc8)) ?_)))))));refine asi rfl (an (ai (ah (mvp rfl (mvi rfl (mvi rfl (mvi rfl (ab (cl (l:=[(0,.const (.int .i64 1)),(4,.tmp 93),(5,.tmp 94)]) (jt _ _)) (aC gd (lJ _ Z7 T g (((dJ (eh s)).take i).foldl (fun (p:Sp) k=>p.tell (py (eh s) k)) (⟨eh s,[]⟩:Sp)) _ (h15.from_ (ag.rfl_ (a:=w14))) tg9 a9 O9 oc9 L9 (hs9.from_ (ag.rfl_ (a:=w14))) (by omega) { zM with k:=1,ix:=bm (eh s),lt:=cV (eh s).t (eh s).es } (dJ (eh s))[i] ⟨du,Col.none⟩) ?_)))))))));rintro v96 w16 ⟨rfl,h16⟩;refine an (bN (ai (ah (ab (cn rfl rfl (by omega)) (mvi rfl (an ?_))))));refine bL (i+1) ⟨(by first | rfl | (refine bT ?_;omega)),trivial⟩ (by (iterate 24 refine bd rfl ?_);exact br) ⟨?_,?_⟩
  ·exact ⟨by omega,by rw [x8 hi9];exact h16.from_ (ag.rfl_ (a:=w16))⟩
  ·omega
 obtain rfl:i=(dJ (eh s)).length:=by omega
 rw [List.take_length] at h15;have h9:=h7.back hB7 h15 hzi;refine cL (bB (bB (cw (ai (ah (mvp rfl (aC qX (xT w0 Z T g ((dJ (eh s)).foldl (fun (p:Sp) k=>p.tell (py (eh s) k)) (⟨eh s,[]⟩:Sp)) _ (h9.from_ (ag.rfl_ (a:=w14))) (by rw [x7];exact hFc) (by rw [o5];show 0+_≤700;have:=hFc.n;omega)) ?_)))))));rintro v99 w17 ⟨rfl,h17⟩;refine an (da (eg rfl ?_));rw [sc hte9];exact ⟨rfl,h17.from_ (ag.rfl_ (a:=w17))⟩
theorem yo (w0:World) (Z:Nat→Prop) (T g:Nat) (s:Rf) (w:World) (h:aR w0 Z w T g ⟨s,[]⟩) (hF:RfF s) :
 Rt prog 56 [.pointer (some ⟨g,0,none⟩)] w (fun v w'=>v=.tuple #[]∧aR w0 Z w' T g (iH s)):=by
 obtain ⟨tag,a,O,oc,L,hs⟩:=h.ex;obtain ⟨E,Ec,V,Vc,X,Xc,M,Mc,Sn,Sc,Q,Qc,LL⟩:=a;have hb:Blk w g T (rfV s (⟨E,Ec,V,Vc,X,Xc,M,Mc,Sn,Sc,Q,Qc,LL⟩:Ra)++[Value.slice O L.length oc]).toArray:=hs.b
 have hll:L.length=0:=by
  have h9:=congrArg List.length hs.m.l;rw [List.length_map] at h9;exact h9
 have hB0:ag w w:=ag.rfl_;have hel:=hF.el;have hrn:=hF.rn;have hti:=hF.ti;have hFe:RfF ({ s with elapsed:=min (s.elapsed+1) 1099511627775 }:Rf):=hF.elapse (by omega);refine enter (n:=64) Tryz.func56 rfl rfl rfl (ao (ah (mvp rfl (mvp rfl (ab (av rfl) (ab (aa aD rfl) (ab (aa aB rfl) (ab (aa dp rfl) (ab (ar ak rfl (by exact (show _=some (Value.int .i64 s.elapsed) from dM (hb.from_ ag.rfl_) 11 rfl))) ?_)))))))));refine ab (cn rfl rfl (by omega)) (ab (j6 rfl rfl) (eS (t:=10) (v:=.int _ _) (v':=.int .i64 (min (s.elapsed+1) 1099511627775)) rfl (by exact bT (by omega)) ?_));refine ab (av rfl) (ab (aa aD rfl) (ab (aa aB rfl) (ab (aa dp rfl) ?_)));have hB0:ag w w:=ag.rfl_;refine cN (s':=({ s with elapsed:=(min (s.elapsed+1) 1099511627775) }:Rf)) (a':=(⟨E,Ec,V,Vc,X,Xc,M,Mc,Sn,Sc,Q,Qc,LL⟩:Ra)) (v:=.int _ _) bc rfl rfl rfl ((hb.from_ ag.rfl_)) (by exact ⟨by decide,rfl⟩) ?_;intro w1 O0_0 P0_0;have hC1:Chg (fun k=>k=g) w w1:=(ag.toChg hB0).only O0_0 rfl;obtain ⟨hs3,h3⟩:=h.set (s':=({ s with elapsed:=(min (s.elapsed+1) 1099511627775) }:Rf)) (a':=(⟨E,Ec,V,Vc,X,Xc,M,Mc,Sn,Sc,Q,Qc,LL⟩:Ra)) hs hC1 (bo.same hs.f rfl rfl rfl rfl rfl rfl) P0_0;have hb3:=P0_0;refine an (ai (ao (ao (ah (mvp rfl (ab (av rfl) (ab (aa aD rfl) (ab (aa aB rfl) (ab (aa cW rfl) (ab (ar ak rfl (by exact (show _=some (Value.int .i64 s.role) from dM (hb3.from_ (ag.rfl_ (a:=w1))) 2 rfl))) ?_))))))))));refine ab (dm rfl rfl) (an (ai (AQ rfl (fun Q2=>?_) (fun Q2=>?_))))
 ·refine ao (ao ?_);apply bK 13 [(22,eqp _),(23,eqp _),(24,eqp _),(25,eqp _),(26,eqp _),(27,eqp _),(28,eqp _),(29,eqp _),(30,eqp _),(31,eqp _),(32,eqp _),(33,eqp _),(34,eqp _)] (by repeat first | exact ct | refine cr ?_ | refine bX ?_) (by kernel_rfl) (by kernel_rfl) ⟨aj _,aj _,aj _,aj _,aj _,aj _,aj _,aj _,aj _,aj _,aj _,aj _,aj _,trivial⟩
  case hop=>
   constructor
   ·rintro-w4 D4;exact au (aF (v:=.pointer _) rfl) rfl
   constructor
   ·rintro-w5 D5;rintro _ rfl;exact au (av rfl) rfl
   constructor
   ·rintro-w6 D6;rintro _ rfl;exact au (aa aD rfl) rfl
   constructor
   ·rintro-w7 D7;rintro _ rfl;exact au (aa aB rfl) rfl
   constructor
   ·rintro-w8 D8;rintro _ rfl;exact au (aa dp rfl) rfl
   constructor
   ·rintro-w9 D9;rintro _ rfl;exact au (ar ak rfl (by exact (show _=some (Value.int .i64 (min (s.elapsed+1) 1099511627775)) from dM (hb3.from_ ((ag.rfl_ (a:=w1)).next D9)) 11 rfl))) rfl
   constructor
   ·rintro-w10 D10;exact au (aF (v:=.pointer _) rfl) rfl
   constructor
   ·rintro-w11 D11;rintro _ rfl;exact au (av rfl) rfl
   constructor
   ·rintro-w12 D12;rintro _ rfl;exact au (aa aD rfl) rfl
   constructor
   ·rintro-w13 D13;rintro _ rfl;exact au (aa aB rfl) rfl
   constructor
   ·rintro-w14 D14;rintro _ rfl;exact au (aa eY rfl) rfl
   constructor
   ·rintro-w15 D15;rintro _ rfl;exact au (ar ak rfl (by exact (show _=some (Value.int .i64 s.timeout) from dM (hb3.from_ ((ag.rfl_ (a:=w1)).next D15)) 12 rfl))) rfl
   constructor
   ·rintro-w16 D16;rintro _ rfl _ rfl;exact au (lH rfl rfl) rfl
   exact trivial
  case hend=>
   intro w17 D17;rintro _ rfl _ rfl _ rfl _ rfl _ rfl _ rfl _ rfl _ rfl _ rfl _ rfl _ rfl _ rfl _ rfl;show St ..;refine an (ai (AT rfl (fun Q18=>?_) (fun Q18=>?_)))
   ·refine ah (mvp rfl (aC sN (xP w0 Z T g ({ s with elapsed:=min (s.elapsed+1) 1099511627775 }:Rf) _ (h3.from_ ((ag.rfl_ (a:=w1)).next D17)) hFe (show s.role≠2 by omega)) ?_));rintro v36 w19 ⟨rfl,h7⟩;refine an (ai (aE (aG (eg rfl (⟨rfl,?_⟩)))));show aR w0 Z _ T g (if s.role=2 then (if 2≤min (s.elapsed+1) 1099511627775 then Sp.all ⟨({ s with elapsed:=0,round:=min (s.round+1) 1099511627775 }:Rf),[]⟩ else ⟨({ s with elapsed:=min (s.elapsed+1) 1099511627775 }:Rf),[]⟩) else if s.timeout≤min (s.elapsed+1) 1099511627775 then jf ({ s with elapsed:=min (s.elapsed+1) 1099511627775 }:Rf) else ⟨({ s with elapsed:=min (s.elapsed+1) 1099511627775 }:Rf),[]⟩)
    first
     |(rw [if_neg (show ¬ s.role=2 by omega),if_pos (by omega)];exact h7.from_ (ag.rfl_ (a:=w19)))
     |(rw [if_neg (show ¬ s.role=2 by omega),if_neg (by omega)];exact h3.from_ (ag.rfl_ (a:=w19)))
     |(rw [if_pos (show s.role=2 by omega),if_pos (by omega)];exact h8.from_ (ag.rfl_ (a:=w19)))
     |(rw [if_pos (show s.role=2 by omega),if_neg (by omega)];exact h3.from_ (ag.rfl_ (a:=w19)))
   refine aO (ai (aE (aG (eg rfl (⟨rfl,?_⟩)))));show aR w0 Z _ T g (if s.role=2 then (if 2≤min (s.elapsed+1) 1099511627775 then Sp.all ⟨({ s with elapsed:=0,round:=min (s.round+1) 1099511627775 }:Rf),[]⟩ else ⟨({ s with elapsed:=min (s.elapsed+1) 1099511627775 }:Rf),[]⟩) else if s.timeout≤min (s.elapsed+1) 1099511627775 then jf ({ s with elapsed:=min (s.elapsed+1) 1099511627775 }:Rf) else ⟨({ s with elapsed:=min (s.elapsed+1) 1099511627775 }:Rf),[]⟩)
   first
    |(rw [if_neg (show ¬ s.role=2 by omega),if_pos (by omega)];exact h7.from_ ((ag.rfl_ (a:=w1)).next D17))
    |(rw [if_neg (show ¬ s.role=2 by omega),if_neg (by omega)];exact h3.from_ ((ag.rfl_ (a:=w1)).next D17))
    |(rw [if_pos (show s.role=2 by omega),if_pos (by omega)];exact h8.from_ ((ag.rfl_ (a:=w1)).next D17))
    |(rw [if_pos (show s.role=2 by omega),if_neg (by omega)];exact h3.from_ ((ag.rfl_ (a:=w1)).next D17))
 refine aO (ai (ao (ah (mvp rfl (ab (av rfl) (ab (aa aD rfl) (ab (aa aB rfl) (ab (aa dp rfl) (ab (ar ak rfl (by exact (show _=some (Value.int .i64 (min (s.elapsed+1) 1099511627775)) from dM (hb3.from_ (ag.rfl_ (a:=w1))) 11 rfl))) ?_)))))))));refine ab (lH rfl rfl) (an (ai (AT rfl (fun Q20=>?_) (fun Q20=>?_))))
 ·refine ao (ah (mvp rfl (ab (av rfl) (ab (aa aD rfl) (ab (aa aB rfl) (ab (aa dp rfl) ?_))))));have hB5:ag _ w1:=(ag.rfl_ (a:=w1));refine cN (s':=({ s with elapsed:=0 }:Rf)) (a':=(⟨E,Ec,V,Vc,X,Xc,M,Mc,Sn,Sc,Q,Qc,LL⟩:Ra)) (v:=.int _ _) bc rfl rfl rfl ((hb3.from_ (ag.rfl_ (a:=w1)))) (by exact ⟨by decide,rfl⟩) ?_;intro w21 O5_0 P5_0;have hC5:Chg (fun k=>k=g) _ w21:=(ag.toChg hB5).only O5_0 rfl;refine an (ai (ao (ah (mvp rfl (mvp rfl (ab (av rfl) (ab (aa aD rfl) (ab (aa aB rfl) (ab (aa dZ rfl) (ab (ar ak rfl (by exact (show _=some (Value.int .i64 s.round) from dM (P5_0.from_ (ag.rfl_ (a:=w21))) 18 rfl))) ?_))))))))));refine ab (cn rfl rfl (by omega)) (ab (j6 rfl rfl) (eS (t:=57) (v:=.int _ _) (v':=.int .i64 (min (s.round+1) 1099511627775)) rfl (by exact bT (by omega)) ?_));refine ab (av rfl) (ab (aa aD rfl) (ab (aa aB rfl) (ab (aa dZ rfl) ?_)));have hB6:ag _ w21:=(ag.rfl_ (a:=w21));refine cN (s':=({ s with elapsed:=0,round:=min (s.round+1) 1099511627775 }:Rf)) (a':=(⟨E,Ec,V,Vc,X,Xc,M,Mc,Sn,Sc,Q,Qc,LL⟩:Ra)) (v:=.int _ _) bc rfl rfl rfl ((P5_0.from_ (ag.rfl_ (a:=w21)))) (by exact ⟨by decide,rfl⟩) ?_;intro w22 O6_0 P6_0;obtain ⟨hs6,h6⟩:=h3.set (s':=({ s with elapsed:=0,round:=min (s.round+1) 1099511627775 }:Rf)) (a':=(⟨E,Ec,V,Vc,X,Xc,M,Mc,Sn,Sc,Q,Qc,LL⟩:Ra)) hs3 ((hC5.next (ag.toChg hB6)).only O6_0 rfl) (bo.same hs3.f rfl rfl rfl rfl rfl rfl) P6_0;refine an (ai (ah (mvp rfl (aC pe (oy w0 Z T g ⟨({ s with elapsed:=0,round:=min (s.round+1) 1099511627775 }:Rf),[]⟩ _ (h6.from_ (ag.rfl_ (a:=w22))) (hF.beat (by omega) (by omega)) (show s.role=2 by omega) (by show 0≤800;omega)) ?_))));rintro v63 w23 ⟨rfl,h8⟩;refine an (da (eg rfl (⟨rfl,?_⟩)));show aR w0 Z _ T g (if s.role=2 then (if 2≤min (s.elapsed+1) 1099511627775 then Sp.all ⟨({ s with elapsed:=0,round:=min (s.round+1) 1099511627775 }:Rf),[]⟩ else ⟨({ s with elapsed:=min (s.elapsed+1) 1099511627775 }:Rf),[]⟩) else if s.timeout≤min (s.elapsed+1) 1099511627775 then jf ({ s with elapsed:=min (s.elapsed+1) 1099511627775 }:Rf) else ⟨({ s with elapsed:=min (s.elapsed+1) 1099511627775 }:Rf),[]⟩)
  first
   |(rw [if_neg (show ¬ s.role=2 by omega),if_pos (by omega)];exact h7.from_ (ag.rfl_ (a:=w23)))
   |(rw [if_neg (show ¬ s.role=2 by omega),if_neg (by omega)];exact h3.from_ (ag.rfl_ (a:=w23)))
   |(rw [if_pos (show s.role=2 by omega),if_pos (by omega)];exact h8.from_ (ag.rfl_ (a:=w23)))
   |(rw [if_pos (show s.role=2 by omega),if_neg (by omega)];exact h3.from_ (ag.rfl_ (a:=w23)))
 refine aO (da (eg rfl (⟨rfl,?_⟩)));show aR w0 Z _ T g (if s.role=2 then (if 2≤min (s.elapsed+1) 1099511627775 then Sp.all ⟨({ s with elapsed:=0,round:=min (s.round+1) 1099511627775 }:Rf),[]⟩ else ⟨({ s with elapsed:=min (s.elapsed+1) 1099511627775 }:Rf),[]⟩) else if s.timeout≤min (s.elapsed+1) 1099511627775 then jf ({ s with elapsed:=min (s.elapsed+1) 1099511627775 }:Rf) else ⟨({ s with elapsed:=min (s.elapsed+1) 1099511627775 }:Rf),[]⟩)
 first
  |(rw [if_neg (show ¬ s.role=2 by omega),if_pos (by omega)];exact h7.from_ (ag.rfl_ (a:=w1)))
  |(rw [if_neg (show ¬ s.role=2 by omega),if_neg (by omega)];exact h3.from_ (ag.rfl_ (a:=w1)))
  |(rw [if_pos (show s.role=2 by omega),if_pos (by omega)];exact h8.from_ (ag.rfl_ (a:=w1)))
  |(rw [if_pos (show s.role=2 by omega),if_neg (by omega)];exact h3.from_ (ag.rfl_ (a:=w1)))
end Go.Proofs.YtkpooenofjdpmaaGreat
namespace Go.Proofs.YtkpooenofjdpmaaGreat
open Go.Proofs.Tryz (prog)
open Go.RowKit
def wq (ops:Array Oper) (n:Fr) (L:List (Nat×Value)) (o:Oper):Option (Nat×Value):=
 match o.dst with
 |none=>none
 |some d=>match o.guard with
  |some (j,b)=>match jv ops n L j with
   | .bool b'=>bif b'==b then none else some (d,undef)
   | .tuple ⟨[]⟩=>some (d,undef)
   |_=>none
  |none=>match o.op with
   | .pick c x y=>match ev n L c with
    | .bool true=>match ev n L x with
     | .bool v=>some (d,.bool v)
     |_=>none
    | .bool false=>match ev n L y with
     | .bool v=>some (d,.bool v)
     |_=>none
    |_=>none
   | .move x=>match ev n L x with
    | .bool v=>some (d,.bool v)
    |_=>none
   |_=>none
def wk (ops:Array Oper) (n:Fr):List Oper→List (Nat×Value)→Option (List (Nat×Value))
 |[],L=>some L
 |o::r,L=>match wq ops n L o with
  |some p=>wk ops n r (p::L)
  |none=>none
section
variable {P:Program} {Q:Exit→Act→World→Prop} {n:Fr} {L:List (Nat×Value)} {w:World} {ops:Array Oper} {rest:List Oper}
theorem wo {o:Oper} {p:Nat×Value} (h:wq ops n L o=some p) (k:St P ops Q rest n (p::L) w):St P ops Q (o::rest) n L w:=by
 obtain ⟨dst,op,ty,pos,after,g⟩:=o;unfold wq at h;cases dst with
 |none=>cases h
 |some d=>
  cases g with
  |some gb=>
   obtain ⟨j,b⟩:=gb;simp only at h;split at h
   ·rename_i b' hw;cases hb:b'==b with
    |true=>rw [hb] at h;cases h
    |false=>rw [hb] at h;cases h;exact aq hw hb k
   ·rename_i hw;cases h;exact eN hw k
   ·cases h
  |none=>
   simp only at h;split at h
   ·split at h
    ·rename_i hc;split at h
     ·rename_i v hx;cases h;exact ab (aM hc hx) k
     ·cases h
    ·rename_i hc;split at h
     ·rename_i v hx;cases h;exact ab (ay hc hx) k
     ·cases h
    ·cases h
   ·split at h
    ·rename_i v hx;cases h;exact ab (aF hx) k
    ·cases h
   ·cases h
theorem bD:∀ {rest:List Oper} {L L':List (Nat×Value)} (_:wk ops n rest L=some L') (_:St P ops Q [] n L' w),St P ops Q rest n L w:=by
 intro rest
 induction rest with
 |nil=>intro L L' h k;cases h;exact k
 |cons o r ih=>
  intro L L' h k;unfold wk at h;split at h
  ·rename_i p hp;exact wo hp (ih h k)
  ·cases h
end
end Go.Proofs.YtkpooenofjdpmaaGreat
