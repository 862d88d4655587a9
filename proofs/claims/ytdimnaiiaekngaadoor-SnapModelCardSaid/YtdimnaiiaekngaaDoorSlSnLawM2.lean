/- texts that the claim stands on. -/
import Derived.Test.YtdimnaiiaekngaaDoorSlSnLawM1
import Derived.Deep.AppendLies
import Derived.Lib.AppendStr
import Derived.Lib.Bytealg
import Derived.Shelf.Small.Strs
import Derived.Shelf.GgClosure.StringsIndexFunc
import Derived.Ground.GgwProg
import Derived.Shelf.GgClosure.StringsIndexFuncTop
import Derived.Shelf.GgClosure.StringsRunes
import Derived.Shelf.Strings.FuncGrows
import Derived.Shelf.Slices.Turned
import Derived.Shelf.Bytes.SlSearch0
import Derived.Ground.SlbCloneProg
import Derived.Shelf.Bytes.SlClone
import Derived.Shelf.Bytes.SlEqualAll
import Derived.Shelf.Bytes.Small
import Derived.Deep.Upon
set_option maxRecDepth 100000
set_option maxHeartbeats 4000000
namespace Go.Proofs.YtdimnaiiaekngaaDoor
open Go.Proofs.Tryd (prog)
open Go.RowKit
def iZ (l:List Oper) (K mu i:Nat):Bool:=Nat.blt mu K&&match l[mu]? with | some om=>iq l om i | none=>false
theorem jX {l:List Oper} {K mu i:Nat} (h:iZ l K mu i=true):mu<K∧∃ om,l[mu]? =some om∧iq l om i=true:=by
 unfold iZ at h;rw [Bool.and_eq_true] at h;refine ⟨Nat.le_of_ble_eq_true h.1,?_⟩;have h2:=h.2;split at h2
 ·rename_i om hom;exact ⟨om,hom,h2⟩
 ·cases h2
def gZ (P:Program) (ops:Array Oper) (n:Fr) (L:List (Nat×Value)) (I1 I2:World→Prop) (R1 R2:Nat→Value→World→Prop) (l0:List Oper) (K:Nat) (mu:Nat):Nat→List Oper→Prop
 |_,[]=>True
 |i,o::r=>(Nat.beq i mu=false→match iZ l0 K mu i with
   |true=>∀ w',I1 w'→eZ R1 w' (df l0 K i o) fun M=>au P ops n (M++L) o w' (R1 (o.dst.getD 0))
   |false=>∀ w',I2 w'→eZ R2 w' (df l0 K i o) fun M=>au P ops n (M++L) o w' (R1 (o.dst.getD 0)))∧gZ P ops n L I1 I2 R1 R2 l0 K mu (i+1) r
theorem iF {P:Program} {ops:Array Oper} {n:Fr} {L:List (Nat×Value)} {I1 I2:World→Prop} {R1 R2:Nat→Value→World→Prop} {l0:List Oper} {K mu:Nat}:∀ {l:List Oper} {k:Nat},gZ P ops n L I1 I2 R1 R2 l0 K mu k l→∀ (i:Nat) (o:Oper),l[i]? =some o→k+i≠mu→
 match iZ l0 K mu (k+i) with
  |true=>∀ w',I1 w'→eZ R1 w' (df l0 K (k+i) o) fun M=>au P ops n (M++L) o w' (R1 (o.dst.getD 0))
  |false=>∀ w',I2 w'→eZ R2 w' (df l0 K (k+i) o) fun M=>au P ops n (M++L) o w' (R1 (o.dst.getD 0))
 |[],_,_,i,o,h,_=>by simp at h
 |x::r,k,⟨h1,h2⟩,0,o,h,hne=>by
  simp only [List.getElem?_cons_zero,Option.some.injEq] at h;subst h;rw [Nat.add_zero] at hne ⊢;refine h1 ?_;rw [←Bool.not_eq_true];intro hb;exact hne (Nat.eq_of_beq_eq_true hb)
 |x::r,k,⟨h1,h2⟩,i+1,o,h,hne=>by
  have:=iF h2 i o (by simpa using h) (by omega)
  rwa [show k+1+i=k+(i+1) by omega] at this
theorem jP {P:Program} {ops:Array Oper} {n:Fr} {L:List (Nat×Value)} {I1 I2:World→Prop} {R1 R2:Nat→Value→World→Prop} {l0:List Oper} {K mu:Nat} {l:List Oper} (h:gZ P ops n L I1 I2 R1 R2 l0 K mu 0 l) (i:Nat) (o:Oper) (ho:l[i]? =some o) (hne:i≠mu) (hd:iZ l0 K mu i=false)
 (w':World) (hw:I2 w'):eZ R2 w' (df l0 K i o) fun M=>au P ops n (M++L) o w' (R1 (o.dst.getD 0)):=by
 have:=iF h i o ho (by rw [Nat.zero_add];exact hne);rw [Nat.zero_add,hd] at this;exact this w' hw
theorem nu {P:Program} {ops:Array Oper} {n:Fr} {L:List (Nat×Value)} {I1 I2:World→Prop} {R1 R2:Nat→Value→World→Prop} {l0:List Oper} {K mu:Nat} {l:List Oper} (h:gZ P ops n L I1 I2 R1 R2 l0 K mu 0 l) (i:Nat) (o:Oper) (ho:l[i]? =some o) (hne:i≠mu) (hd:iZ l0 K mu i=true)
 (w':World) (hw:I1 w'):eZ R1 w' (df l0 K i o) fun M=>au P ops n (M++L) o w' (R1 (o.dst.getD 0)):=by
 have:=iF h i o ho (by rw [Nat.zero_add];exact hne);rw [Nat.zero_add,hd] at this;exact this w' hw
section late
variable {P:Program} {Q:Exit→Act→World→Prop} {n:Fr} {L:List (Nat×Value)} {w:World} {l:List Oper} {K mu:Nat} {I1 I2:World→Prop} {R1 R:Nat→Value→World→Prop}
theorem kQ (hQ:PQ Q) (hc:gN l K=true) (hop:gZ P l.toArray n L I1 I2 R1 R l K mu 0 (l.take K)) (h12:∀ t v w,R1 t v w→R t v w) (hmuL:mu<K→ch l K mu=false)
 (hend:∀ w',I2 w'→eZ R w' (db l K) fun M=>St P l.toArray Q (l.drop K) n (M++L) w') (m:Nat) (listed:Array Bool) (L':List (Nat×Value)) (w':World) (hcl:d_ l listed) (hcount:listed.toList.count false=m) (hs:listed.size=l.length)
 (htail:∀ j,K≤j→j<l.length→listed.getD j true=false) (hF:I2 w')
 (hfr:∀ t,(∀ i o,i<K→l[i]? =some o→listed.getD i true=true→o.dst≠some t)→aM L' t=aM L t)
 (hR:∀ i o d,i<K→l[i]? =some o→listed.getD i true=true→o.dst=some d→R d (aM L' d) w') (hpre:∀ i,i<K→listed.getD i true=false→ch l K i=true):wpAny P .any l.toArray Q m listed (mkA n L') w':=by
 have hc1:=(Bool.and_eq_true_iff.1 hc).1;have hlate:=(Bool.and_eq_true_iff.1 hc).2;have hKl:K≤l.length:=dT_ (Bool.and_eq_true_iff.1 hc1).1;have hck:=(List.all_eq_true.1 (Bool.and_eq_true_iff.1 hc1).2)
 have hhead:∀ i,i<K→∃ o d,l[i]? =some o∧o.dst=some d∧bM o.op=false∧(∀ j oj,j<K→j≠i→l[j]? =some oj→oj.dst≠some d):=by
  intro i hi;have hil:i<l.length:=by omega
  have hx:=hck i (List.mem_range.2 hil);rw [List.getElem?_eq_getElem hil] at hx;simp only [Bool.and_eq_true] at hx;have h3:=hx.2;rw [if_pos hi] at h3;simp only [Bool.and_eq_true] at h3;obtain ⟨h3a,h3b⟩:=h3;cases hod:(l[i]).dst with
  |none=>rw [hod] at h3a;cases h3a
  |some d=>
   rw [hod] at h3a;simp only [Bool.and_eq_true] at h3a;refine ⟨l[i],d,List.getElem?_eq_getElem hil,hod,by simpa using hx.1.2,fun j oj hj hne hoj e=>?_⟩;have h5:=List.all_eq_true.1 h3a.1 j (List.mem_range.2 hj);rw [hoj] at h5;simp [hne,e] at h5
 have hval:∀ i,i<K→listed.getD i true=false→∃ v,∀ o d,l[i]? =some o→o.dst=some d→Yields P l.toArray o v (mkA n L')∧R d v w':=by
  intro i hi hf;have hil8:=hpre i hi hf;obtain ⟨o,d,ho,hd,hsel,_⟩:=hhead i hi;obtain ⟨hk,hg,hap⟩:=eQ hlate hi ho hil8
  have hfact:∀ t∈df l K i o,R t (aM L' t) w':=by
   intro t ht;obtain ⟨ht2,j,oj,hjK,hj,hdj,hji,_⟩:=e_ hc hi ho ht;refine hR j oj t hjK hj ?_ hdj;cases hb:listed.getD j true with
   |true=>rfl
   |false=>
    have h6:=hpre j hjK hb;have h7:=(Oper.apart_spec (hap j oj hj (by omega) (.inl ⟨hjK,h6⟩))).2.2 t hdj;exact absurd (by simpa using ht2) h7
  have hlooks:=lE (L:=L) hc hcl hs ho (by omega) hf hfr
  have hnd:iZ l K mu i=false:=by
   rw [←Bool.not_eq_true];intro hd;obtain ⟨hmK,om,hom,hdep⟩:=jX hd
   have hml:listed.getD mu true=true:=by
    cases hb:listed.getD mu true with
    |true=>rfl
    |false=>exact absurd (hpre mu hmK hb) (by rw [hmuL hmK];simp)
   have hml2:listed.getD mu false=true:=by rw [←aR (by omega)];exact hml
   have:=cX hcl (fun e he hb=>hcl mu om hom hml2 e he hb) hdep;rw [←aR (by omega),hf] at this;cases this
  have hok:=dp (aM L') _ hfact (jP hop i o (by rw [List.getElem?_take,if_pos hi];exact ho) (by intro e;rw [e,hmuL (by omega)] at hil8;cases hil8) hnd w' hF);obtain ⟨hE,hW⟩:=c6 (n:=n) (ops:=l.toArray) (o:=o) hsel hlooks;rw [hd] at hok;simp only [Option.getD_some] at hok
  have hyl:∃ v,Yields P l.toArray o v (mkA n L')∧R d v w':=by
   unfold au at hok;rw [hE,hW] at hok;rcases hok with ⟨hw,⟨v,w'',hr,hF',hRv⟩ | ⟨f,args,hr,hcall⟩⟩ | ⟨hw,hRv⟩
   ·obtain ⟨rfl,hall⟩:=mq hk hr;refine ⟨v,.inl ⟨hw,fun w2=>?_⟩,h12 _ _ _ hRv⟩;rw [bk];exact hall w2
   ·exfalso;obtain ⟨dst,op,ty,pos,after,guard⟩:=o;cases op <;> simp only [jR,Bool.false_eq_true] at hk <;> simp only [execOp,Sem.run_pure,Sem.run_bind,Result.ok.injEq] at hr
    ·cases hr.1
    ·cases hr.1
    ·rename_i x i';cases hx:ev n L' x <;> simp only [hx,Instr.extract] at hr <;> (try (simp at hr;done))
     rename_i vs;cases hv:vs[i']? <;> simp [hv] at hr
   ·exact ⟨undef,.inr ⟨hw,rfl⟩,h12 _ _ _ hRv⟩
  obtain ⟨v,hv1,hv2⟩:=hyl;refine ⟨v,fun o' d' ho' hd'=>?_⟩;rw [ho] at ho';cases ho';rw [hd] at hd';cases hd';exact ⟨hv1,hv2⟩
 obtain ⟨f,hf⟩:∃ f:Nat→Value,∀ i,i<K→listed.getD i true=false→∀ o d,l[i]? =some o→o.dst=some d→Yields P l.toArray o (f i) (mkA n L')∧R d (f i) w':=by
  refine ⟨fun i=>open Classical in if h:∃ v,∀ o d,l[i]? =some o→o.dst=some d→Yields P l.toArray o v (mkA n L')∧R d v w' then h.choose else undef,fun i hi hl=>?_⟩;have h:=hval i hi hl;simp only [dif_pos h];exact h.choose_spec
 have hUm:∀ i,i∈(List.range K).filter (fun i=> !listed.getD i true)↔i<K∧listed.getD i true=false:=fun i=>by
  rw [List.mem_filter,List.mem_range];simp
 obtain ⟨U,hU,hUn⟩:∃ U:List Nat,(∀ i,i∈U↔i<K∧listed.getD i true=false)∧U.Nodup:=⟨_,hUm,List.nodup_range.sublist (List.filter_sublist ..)⟩;have hbind:∀ {i:Nat} {o:Oper},l[i]? =some o→(l[i]?).bind (·.dst)=o.dst:=fun h=>by rw [h];rfl
 have hRall:∀ d∈db l K,R d (aM ((U.filterMap fun i=>((l[i]?).bind (·.dst)).map fun d=>(d,f i))++L') d) w':=by
  intro d hd;obtain ⟨o,ho,hod⟩:=List.mem_filterMap.1 hd;obtain ⟨i,hi⟩:=List.mem_iff_getElem?.1 ho;rw [List.getElem?_take] at hi;split at hi
  ·rename_i hiK;obtain ⟨o',d',ho',hd',_,hdist⟩:=hhead i hiK;rw [hi] at ho';cases ho';rw [hod] at hd';cases hd'
   have hne:∀ j∈U,j≠i→(l[j]?).bind (·.dst)≠some d:=fun j hj hji=>by
    have hjK:=((hU j).1 hj).1;obtain ⟨oj,dj,hoj,_⟩:=hhead j hjK;rw [hbind hoj];exact hdist j oj hjK hji hoj
   cases hb:listed.getD i true with
   |true=>
    rw [eJ U fun j hj=>hne j hj (fun e=>by subst e;have:=((hU j).1 hj).2;rw [hb] at this;cases this)];exact hR i o d hiK hi hb hod
   |false=>
    rw [fJ U ((hU i).2 ⟨hiK,hb⟩) ((hbind hi).trans hod) hne];exact (hf i hiK hb o d hi hod).2
  ·cases hi
 have he:=dp _ (db l K) hRall (hend w' hF)
 have hL:mkA n ((db l K).map (fun d=>(d,aM ((U.filterMap fun i=>((l[i]?).bind (·.dst)).map fun d=>(d,f i))++L') d))++L)=eC l f U (mkA n L'):=by
  rw [jL];refine dR fun t _=>?_
  rw [fw];split
  ·rfl
  ·rename_i hne
   have hnd:∀ i,i<K→∀ o,l[i]? =some o→o.dst≠some t:=fun i hi o ho hod=>hne (by
    simp only [List.elem_eq_mem,decide_eq_true_eq];exact List.mem_filterMap.2 ⟨o,List.mem_iff_getElem?.2 ⟨i,by rw [List.getElem?_take,if_pos hi];exact ho⟩,hod⟩)
   rw [eJ U fun j hj=>by
    have hjK:=((hU j).1 hj).1;obtain ⟨oj,dj,hoj,_⟩:=hhead j hjK;rw [hbind hoj];exact hnd j hjK oj hoj]
   exact (hfr t fun i o hi ho _ hod=>hnd i hi o ho hod).symm
 replace he:=he.out;rw [hL] at he;refine jy hQ hc m K listed U _ w' hcl hcount hs (Nat.le_refl _) hKl (fun j h1 h2=>by rw [htail j h1 h2];simp [h1]) hUn (fun j hj=>⟨fun h=>(hU j).2 ⟨hj,h⟩,fun h=>((hU j).1 h).2⟩) (fun j hj=>?_) he;obtain ⟨h1,h2⟩:=(hU j).1 hj;obtain ⟨oj,dj,hoj,hdj,_⟩:=hhead j h1;exact ⟨h1,hpre j h1 h2,oj,hoj,(hf j h1 h2 oj dj hoj hdj).1⟩
theorem p_ (hQ:PQ Q) (hc:gN l K=true) (hm1:∀ w1 w2,ai w1 w2→I1 w1→I1 w2) (hm2:∀ w1 w2,ai w1 w2→I2 w1→I2 w2) (hmono1:∀ t v w1 w2,ai w1 w2→R1 t v w1→R1 t v w2) (hmono:∀ t v w1 w2,ai w1 w2→R t v w1→R t v w2)
 (hop:gZ P l.toArray n L I1 I2 R1 R l K mu 0 (l.take K)) (h12:∀ t v w,R1 t v w→R t v w) (hmuL:mu<K→ch l K mu=false) (hmu:rT P l.toArray n L I1 I2 R1 R l K mu l[mu]?)
 (hend:∀ w',I2 w'→eZ R w' (db l K) fun M=>St P l.toArray Q (l.drop K) n (M++L) w') :
 ∀ (m:Nat) (listed:Array Bool) (L':List (Nat×Value)) (w':World),d_ l listed→listed.toList.count false=m→listed.size=l.length→(∀ j,K≤j→j<l.length→listed.getD j true=false)→I2 w'→(listed.getD mu true=false→I1 w')→
  (∀ t,(∀ i o,i<K→l[i]? =some o→listed.getD i true=true→o.dst≠some t)→aM L' t=aM L t)→
  (∀ i o d,i<K→l[i]? =some o→listed.getD i true=true→o.dst=some d→R d (aM L' d) w')→(listed.getD mu true=false→∀ i o d,i<K→l[i]? =some o→listed.getD i true=true→o.dst=some d→R1 d (aM L' d) w')→wpAny P .any l.toArray Q m listed (mkA n L') w':=by
 have hc1:=(Bool.and_eq_true_iff.1 hc).1;have hlate:=(Bool.and_eq_true_iff.1 hc).2;have hKl:K≤l.length:=dT_ (Bool.and_eq_true_iff.1 hc1).1;have hck:=(List.all_eq_true.1 (Bool.and_eq_true_iff.1 hc1).2);intro m
 induction m with
 |zero=>
  intro listed L' w' hcl hcount hs htail hF hF1 hfr hR hR1
  exact kQ hQ hc hop h12 hmuL hend 0 listed L' w' hcl hcount hs htail hF hfr hR (fun i hi h=>by
   have hm:listed[i]'(by omega)∈listed.toList:=by simp
   have hb:listed[i]'(by omega)=false:=by simpa [Array.getD,show i<listed.size by omega] using h
   rw [hb] at hm;exact absurd hcount (Nat.pos_iff_ne_zero.1 (List.count_pos_iff.2 hm)))
 |succ m ih=>
  intro listed L' w' hcl hcount hs htail hF hF1 hfr hR hR1;by_cases hpre:∀ i,i<K→listed.getD i true=false→ch l K i=true
  ·exact kQ hQ hc hop h12 hmuL hend (m+1) listed L' w' hcl hcount hs htail hF hfr hR hpre
  ·
   have hn0:∃ i,i<K∧listed.getD i true=false∧ch l K i=false:=by
    refine Classical.byContradiction fun hno=>hpre fun i hi hf=>?_
    cases hb:ch l K i with
    |true=>rfl
    |false=>exact absurd ⟨i,hi,hf,hb⟩ hno
   obtain ⟨n0,hn0⟩:=hn0;obtain ⟨i0,hi0,hmin⟩:=exists_least (p:=fun i=>i<K∧listed.getD i true=false) ⟨n0,hn0.1,hn0.2.1⟩;have hi0l:i0<l.length:=by omega
   have hready:i0∈Region.ready .any l.toArray listed:=by
    refine mem_ready.2 ⟨hi0.2,l[i0],by rw [List.getElem?_toArray,List.getElem?_eq_getElem hi0l],fun e he hb=>?_⟩;have hx:=hck i0 (List.mem_range.2 hi0l);rw [List.getElem?_eq_getElem hi0l] at hx;simp only [Bool.and_eq_true] at hx;have he2:=List.all_eq_true.1 hx.1.1 e (by simpa using he);rw [hb] at he2;simp at he2;rw [←aR (by omega)];cases hb2:listed.getD e.on true with
    |true=>rfl
    |false=>exact absurd (hmin e.on ⟨by omega,hb2⟩) (by omega)
   refine ⟨fun h0=>(by rw [h0] at hready;cases hready),fun i hi=>?_⟩;obtain ⟨h0,o,ho,hall⟩:=mem_ready.1 hi;rw [List.getElem?_toArray] at ho;have hil:i<l.length:=(List.getElem?_eq_some_iff.1 ho).1;have hx:=hck i (List.mem_range.2 hil);rw [ho] at hx;simp only [Bool.and_eq_true] at hx
   have hiK:i<K:=by
    rcases Nat.lt_or_ge i K with h | h
    ·exact h
    ·exfalso;have h5:=cX hcl hall (gM hn0.2.2 ho h);rw [←aR (by omega),hn0.2.1] at h5;cases h5
   have h3:=hx.2;rw [if_pos hiK] at h3;simp only [Bool.and_eq_true] at h3;obtain ⟨h3a,h3b⟩:=h3;cases hod:o.dst with
   |none=>rw [hod] at h3a;cases h3a
   |some d=>
    rw [hod] at h3a;simp only [Bool.and_eq_true] at h3a;have hlooks:=lE (L:=L) hc hcl hs ho hil h0 hfr
    have hfactG:∀ (RR:Nat→Value→World→Prop),(∀ i o d,i<K→l[i]? =some o→listed.getD i true=true→o.dst=some d→RR d (aM L' d) w')→∀ t∈df l K i o,RR t (aM L' t) w':=by
     intro RR hRR t ht;obtain ⟨_,j,oj,hjK,hj,hd,_,hdep⟩:=e_ hc hiK ho ht;have h6:=cX hcl hall hdep;exact hRR j oj t hjK hj (by rw [aR (by omega)];exact h6) hd
    have hsel:bM o.op=false:=by simpa using hx.1.2
    obtain ⟨hE,hW⟩:=c6 (n:=n) (ops:=l.toArray) (o:=o) hsel hlooks
    have next:∀ v w'',I2 w''→(i≠mu→listed.getD mu true=false→I1 w'')→R d v w''→(i≠mu→R1 d v w'')→(∀ t u,t≠d→R t u w'→(i=mu→R1 t u w')→R t u w'')→(i≠mu→∀ t u,R1 t u w'→R1 t u w'')→wpAny P .any l.toArray Q m (listed.setIfInBounds i true) ((mkA n L').put (some d) v) w'':=by
     intro v w'' hI2' hI1' hRv hR1v hst hst1;rw [da]
     have hne:∀ j oj d',j<K→l[j]? =some oj→j≠i→oj.dst=some d'→d'≠d:=by
      intro j oj d' hj hoj hji hd e;have h5:=List.all_eq_true.1 h3a.1 j (List.mem_range.2 hj);rw [hoj] at h5;simp [hji,hd,e] at h5
     refine ih _ _ w'' (fK hcl ho hall) ?_ (by simpa using hs) (fun j hj1 hj2=>?_) hI2' (fun hml=>?_) (fun t ht=>?_) (fun j oj d' hj hoj hlj hd=>?_) (fun hml j oj d' hj hoj hlj hd=>?_)
     ·have hil':i<listed.size:=by omega
      have hfalse:listed.toList[i]? =some false:=by
       rw [Array.getElem?_toList,Array.getElem?_eq_getElem hil'];simp [Array.getD,hil'] at h0;rw [h0]
      rw [Array.toList_setIfInBounds];have:=cP (l:=listed.toList) (i:=i) hfalse;omega
     ·rw [getD_set_ne true (by omega)];exact htail j hj1 hj2
     ·have him:i≠mu:=fun e=>by subst e;simp [show i<listed.size by omega] at hml
      rw [getD_set_ne true him] at hml;exact hI1' him hml
     ·have htd:t≠d:=fun e=>ht i o hiK ho (by simp [show i<listed.size by omega]) (by rw [hod,e])
      rw [aW,if_neg htd];refine hfr t fun j oj hj hoj hlj=>ht j oj hj hoj ?_
      by_cases e:i=j
      ·subst e;rw [h0] at hlj;cases hlj
      ·rw [getD_set_ne true e];exact hlj
     ·rw [aW];by_cases e:j=i
      ·subst e;rw [ho] at hoj;cases hoj;rw [hod] at hd;cases hd;rw [if_pos rfl];exact hRv
      ·have hdd:=hne j oj d' hj hoj e hd;rw [if_neg hdd];rw [getD_set_ne true (Ne.symm e)] at hlj;refine hst _ _ hdd (hR j oj d' hj hoj hlj hd) (fun e2=>?_);subst e2;exact hR1 h0 j oj d' hj hoj hlj hd
     ·have him:i≠mu:=fun e=>by subst e;simp [show i<listed.size by omega] at hml
      rw [getD_set_ne true him] at hml;rw [aW];by_cases e:j=i
      ·subst e;rw [ho] at hoj;cases hoj;rw [hod] at hd;cases hd;rw [if_pos rfl];exact hR1v him
      ·rw [if_neg (hne j oj d' hj hoj e hd)];rw [getD_set_ne true (Ne.symm e)] at hlj;exact hst1 him _ _ (hR1 hml j oj d' hj hoj hlj hd)
    unfold wpOp;rw [List.getElem?_toArray,ho];show if Region.wanted o (yielded l.toArray (mkT n.n L'))=true then _ else _
    by_cases him:i=mu
    ·subst him;rw [ho] at hmu;have hok:=dp (aM L') _ (hfactG R1 (hR1 h0)) (hmu w' (hF1 h0));rw [hod] at hok;simp only [Option.getD_some] at hok;unfold lS at hok;rw [hE,hW] at hok;obtain ⟨hw,⟨v,w'',hr,hI,hRv,hst⟩ | ⟨f,args,hr,hcall⟩⟩:=hok
     ·rw [if_pos hw];refine .inl ?_;unfold Oper.wp;rw [bk,hr,Oper.upon_value,hod];exact next v w'' hI (fun h=>absurd rfl h) hRv (fun h=>absurd rfl h) (fun t u ht _ h1=>hst t u ht (h1 rfl)) (fun h=>absurd rfl h)
     ·rw [if_pos hw];refine .inl ?_;unfold Oper.wp;rw [bk,hr,Oper.upon_enter,hod];refine Calls.mono hcall fun e w'' ⟨v,he,hI,hRv,hst⟩=>?_
      subst he;exact next v w'' hI (fun h=>absurd rfl h) hRv (fun h=>absurd rfl h) (fun t u ht _ h1=>hst t u ht (h1 rfl)) (fun h=>absurd rfl h)
    ·have hok:au P l.toArray n (((df l K i o).map fun d=>(d,aM L' d))++L) o w' (R1 (o.dst.getD 0)):=by
      cases hdm:iZ l K mu i with
      |false=>exact dp (aM L') _ (hfactG R hR) (jP hop i o (by rw [List.getElem?_take,if_pos hiK];exact ho) him hdm w' hF)
      |true=>
       have hml:listed.getD mu true=false:=by
        obtain ⟨hmK,om,hom,hdep⟩:=jX hdm;rw [←Bool.not_eq_true];intro hml;have hml2:listed.getD mu false=true:=by rw [←aR (by omega)];exact hml
        have:=cX hcl (fun e he hb=>hcl mu om hom hml2 e he hb) hdep;rw [←aR (by omega),h0] at this;cases this
       exact dp (aM L') _ (hfactG R1 (hR1 hml)) (nu hop i o (by rw [List.getElem?_take,if_pos hiK];exact ho) him hdm w' (hF1 hml))
     rw [hod] at hok;simp only [Option.getD_some] at hok;unfold au at hok;rw [hE,hW] at hok
     have next':∀ v w'',ai w' w''→R1 d v w''→wpAny P .any l.toArray Q m (listed.setIfInBounds i true) ((mkA n L').put (some d) v) w'':=fun v w'' hF' hRv=>
      next v w'' (hm2 _ _ hF' hF) (fun _ h=>hm1 _ _ hF' (hF1 h)) (h12 _ _ _ hRv) (fun _=>hRv) (fun t u _ h _=>hmono _ _ _ _ hF' h) (fun _ t u h=>hmono1 _ _ _ _ hF' h)
     rcases hok with ⟨hw,⟨v,w'',hr,hF',hRv⟩ | ⟨f,args,hr,hcall⟩⟩ | ⟨hw,hRv⟩
     ·rw [if_pos hw];refine .inl ?_;unfold Oper.wp;rw [bk,hr,Oper.upon_value,hod];exact next' v w'' hF' hRv
     ·rw [if_pos hw];refine .inl ?_;unfold Oper.wp;rw [bk,hr,Oper.upon_enter,hod];refine Calls.mono hcall fun e w'' ⟨v,he,hF',hRv⟩=>?_
      subst he;exact next' v w'' hF' hRv
     ·rw [if_neg (by rw [hw];simp),hod];exact next' undef w' ai.rfl_ hRv
theorem nF {id:Nat} (K mu:Nat) (Ex:List Nat) (RL:List (Nat×(Value→World→Prop))) (I1 I2:World→Prop) (hQ:PQ Q) (hm:P.follows .mixedOrders=true) (hc:gN l K=true) (hl:ch l K mu=false) (hmono:k7 RL)
 (h0:I1 { w with drawn:=w.drawn+1 }) (h0':I2 { w with drawn:=w.drawn+1 }) (hm1:∀ w1 w2,ai w1 w2→I1 w1→I1 w2) (hm2:∀ w1 w2,ai w1 w2→I2 w1→I2 w2)
 (hop:gZ P l.toArray n L I1 I2 (dP RL) (f_ Ex RL) l K mu 0 (l.take K)) (hmu:rT P l.toArray n L I1 I2 (dP RL) (f_ Ex RL) l K mu l[mu]?)
 (hend:∀ w',I2 w'→eZ (f_ Ex RL) w' (db l K) fun M=>St P l.toArray Q (l.drop K) n (M++L) w'):Cd P (.region id l.toArray true) Q n L w:=by
 refine ⟨wp_region_any hm ?_⟩;have hKl:K≤l.length:=dT_ (Bool.and_eq_true_iff.1 (Bool.and_eq_true_iff.1 hc).1).1
 have:=p_ (Q:=Q) hQ hc hm1 hm2 (dS hmono) (nz hmono) hop qe (fun _=>hl) hmu hend l.length (Array.replicate l.length false) L { w with drawn:=w.drawn+1 } (i_ l _) (by simp) (by simp)
  (fun j _ hj=>by simp [Array.getD,hj]) h0' (fun _=>h0) (fun _ _=>rfl) (fun i o d hi _ hl=>by
   have:i<l.length:=by omega
   simp [Array.getD,this] at hl) (fun _ i o d hi _ hl=>by
   have:i<l.length:=by omega
   simp [Array.getD,this] at hl)
 simpa using this
end late
section
variable {P:Program} {ops:Array Oper} {n:Fr} {L:List (Nat×Value)} {w:World} {ty:TypeId} {pos:String} {after:Array Edge} {dst:Option Nat}
theorem ru {f:FuncId} {l:List Operand} {ats:Array TypeId} {R post:Value→World→Prop} (hf:aI P f=true) (hc:Rt P f (l.map (ev n L)) w R) (k:∀ v w',R v w'→post v w') :
 lS P ops n L ⟨dst,.call { callee:=.value (.func f),args:=l.toArray,argTypes:=ats },ty,pos,after,none⟩ w post:=
 ⟨rfl,.inr ⟨f,l.map (ev n L),by rw [dU (fun _=>rfl),ed hf],hc.mono k⟩⟩
theorem sZ {op:Op} {v:Value} {w':World} {post:Value→World→Prop} (hr:RO P (ev n L) op w v w') (h:post v w'):lS P ops n L ⟨dst,op,ty,pos,after,none⟩ w post:=⟨rfl,.inl ⟨v,w',hr _ _ _ _ _,h⟩⟩
end
end Go.Proofs.YtdimnaiiaekngaaDoor
namespace Go.Proofs.YtdimnaiiaekngaaDoor
open Go.Proofs.Tryd (prog)
open Go.RowKit
def lM (l:List Oper):Bool:=(List.range l.length).all fun i=>match l[i]? with
 |none=>false
 |some o=>o.guard.isNone&&o.after.toList.all fun e=> !Region.binds .any e||decide (e.on<i)
def ck (S:Nat→Bool) (i:Nat):Nat→Bool:=fun j=>if j=i then true else S j
def fR (P:Program) (n:Fr) (o:Oper) (Inv:List (Nat×Value)→World→Prop) (L':List (Nat×Value)) (w':World):Prop:=
 (∃ d v w'',o.dst=some d∧(execOp (ev n L') o).run P w'=.ok (.value v) w''∧Inv ((d,v)::L') w'')∨
 (∃ w'',o.dst=none∧(execOp (ev n L') o).run P w'=.ok .skip w''∧Inv L' w'')∨
 (∃ d f args,o.dst=some d∧(execOp (ev n L') o).run P w'=.ok (.enter f (List.toArray args)) w'∧Rt P f args w' fun v w''=>Inv ((d,v)::L') w'')
section
variable {P:Program} {Q:Exit→Act→World→Prop} {n:Fr} {L:List (Nat×Value)} {w:World} {l:List Oper}
theorem rB {Inv:(Nat→Bool)→List (Nat×Value)→World→Prop} (hwf:lM l=true)
 (hstep:∀ (i:Nat) (o:Oper) (S:Nat→Bool) (L':List (Nat×Value)) (w':World),l[i]? =some o→Inv S L' w'→S i=false→(∀ e∈o.after,Region.binds .any e=true→S e.on=true)→fR P n o (Inv (ck S i)) L' w')
 (hend:∀ L' w',Inv (fun i=>decide (i<l.length)) L' w'→Q .normal (mkA n L') w') :
 ∀ (m:Nat) (listed:Array Bool) (L':List (Nat×Value)) (w':World),listed.toList.count false=m→listed.size=l.length→Inv (fun i=>listed.getD i false) L' w'→wpAny P .any l.toArray Q m listed (mkA n L') w':=by
 have hck:=List.all_eq_true.1 hwf;intro m
 induction m with
 |zero=>
  intro listed L' w' hcount hs hI
  have hall:∀ i,i<l.length→listed.getD i false=true:=fun i hi=>by
   have hm:listed[i]'(by omega)∈listed.toList:=by simp
   cases hb:listed[i]'(by omega) with
   |true=>simp [Array.getD,show i<listed.size by omega,hb]
   |false=>rw [hb] at hm;exact absurd hcount (Nat.pos_iff_ne_zero.1 (List.count_pos_iff.2 hm))
  have e:(fun i=>listed.getD i false)=fun i=>decide (i<l.length):=by
   funext i
   by_cases hi:i<l.length
   ·rw [hall i hi,decide_eq_true hi]
   ·rw [decide_eq_false hi];simp [Array.getD,show ¬ i<listed.size by omega]
  rw [e] at hI;refine ⟨?_,hend L' w' hI⟩;cases hr:Region.ready .any l.toArray listed with
  |nil=>rfl
  |cons i r=>
   exfalso;obtain ⟨h0,o,ho,_⟩:=mem_ready.1 (show i∈Region.ready .any l.toArray listed by rw [hr];simp);rw [List.getElem?_toArray] at ho;have hil:i<l.length:=(List.getElem?_eq_some_iff.1 ho).1;have:=hall i hil;rw [←aR (by omega),h0] at this;cases this
 |succ m ih=>
  intro listed L' w' hcount hs hI
  have hn0:∃ i,i<l.length∧listed.getD i true=false:=by
   have hpos:0<listed.toList.count false:=by omega
   obtain ⟨i,hi,hb⟩:=List.getElem_of_mem (List.count_pos_iff.1 hpos);rw [Array.length_toList] at hi;refine ⟨i,by omega,?_⟩;rw [Array.getElem_toList] at hb;simp [Array.getD,hi,hb]
  obtain ⟨i0,hi0,hmin⟩:=exists_least (p:=fun i=>i<l.length∧listed.getD i true=false) hn0
  have hready:i0∈Region.ready .any l.toArray listed:=by
   refine mem_ready.2 ⟨hi0.2,l[i0]'hi0.1,by rw [List.getElem?_toArray,List.getElem?_eq_getElem hi0.1],fun e he hb=>?_⟩;have hx:=hck i0 (List.mem_range.2 hi0.1);rw [List.getElem?_eq_getElem hi0.1] at hx;simp only [Bool.and_eq_true] at hx;have he2:=List.all_eq_true.1 hx.2 e (by simpa using he);rw [hb] at he2;simp at he2;have:=hi0.1;rw [←aR (by omega)];cases hb2:listed.getD e.on true with
   |true=>rfl
   |false=>exact absurd (hmin e.on ⟨by omega,hb2⟩) (by omega)
  refine ⟨fun h0=>(by rw [h0] at hready;cases hready),fun i hi=>?_⟩;obtain ⟨h0,o,ho,hall⟩:=mem_ready.1 hi;rw [List.getElem?_toArray] at ho;have hil:i<l.length:=(List.getElem?_eq_some_iff.1 ho).1;have hx:=hck i (List.mem_range.2 hil);rw [ho] at hx;simp only [Bool.and_eq_true] at hx;have hg:o.guard=none:=by simpa using hx.1
  have h0f:listed.getD i false=false:=by rw [←aR (by omega)];exact h0
  have hset:(fun j=>(listed.setIfInBounds i true).getD j false)=ck (fun j=>listed.getD j false) i:=by
   funext j
   unfold ck;by_cases e:j=i
   ·subst e;simp [Array.getD,show j<listed.size by omega]
   ·rw [if_neg e,getD_set_ne false (Ne.symm e)]
  have hcnt:(listed.setIfInBounds i true).toList.count false=m:=by
   have hil':i<listed.size:=by omega
   have hfalse:listed.toList[i]? =some false:=by
    rw [Array.getElem?_toList,Array.getElem?_eq_getElem hil'];simp [Array.getD,hil'] at h0;rw [h0]
   rw [Array.toList_setIfInBounds];have:=cP (l:=listed.toList) (i:=i) hfalse;omega
  have next:∀ L2 w2,Inv (ck (fun j=>listed.getD j false) i) L2 w2→wpAny P .any l.toArray Q m (listed.setIfInBounds i true) (mkA n L2) w2:=fun L2 w2 h=>
   ih _ L2 w2 hcnt (by simpa using hs) (by rw [hset];exact h)
  unfold wpOp;rw [List.getElem?_toArray,ho];show if Region.wanted o (yielded l.toArray (mkT n.n L'))=true then _ else _
  rw [if_pos (by unfold Region.wanted;rw [hg])];refine .inl ?_;unfold Oper.wp;rw [bk];rcases hstep i o _ L' w' ho hI h0f hall with ⟨d,v,w'',hd,hr,hI2⟩ | ⟨w'',hd,hr,hI2⟩ | ⟨d,f,args,hd,hr,hc⟩
  ·rw [hr,Oper.upon_value,hd,da];exact next _ _ hI2
  ·rw [hr,Oper.upon_skip,hd];exact next _ _ hI2
  ·rw [hr,Oper.upon_enter,hd];refine Calls.mono hc fun e w'' ⟨v,he,hI2⟩=>?_
   subst he;show wpAny P .any l.toArray Q m (listed.setIfInBounds i true) ((mkA n L').put (some d) v) w'';rw [da];exact next _ _ hI2
theorem qA {id:Nat} (Inv:(Nat→Bool)→List (Nat×Value)→World→Prop) (hm:P.follows .mixedOrders=true) (hwf:lM l=true) (h0:Inv (fun _=>false) L { w with drawn:=w.drawn+1 })
 (hstep:∀ (i:Nat) (o:Oper) (S:Nat→Bool) (L':List (Nat×Value)) (w':World),l[i]? =some o→Inv S L' w'→S i=false→(∀ e∈o.after,Region.binds .any e=true→S e.on=true)→fR P n o (Inv (ck S i)) L' w')
 (hend:∀ L' w',Inv (fun i=>decide (i<l.length)) L' w'→Q .normal (mkA n L') w'):Cd P (.region id l.toArray true) Q n L w:=by
 refine ⟨wp_region_any hm ?_⟩
 have:=rB (Q:=Q) hwf hstep hend l.length (Array.replicate l.length false) L { w with drawn:=w.drawn+1 } (by simp) (by simp) (by
  have e:(fun i=>(Array.replicate l.length false).getD i false)=fun _=>false:=by
   funext i
   by_cases hi:i<l.length <;> simp [Array.getD,hi]
  rw [e];exact h0)
 simpa using this
theorem a8 {d:Nat} {op:Op} {ty:TypeId} {pos:String} {after:Array Edge} {v:Value} {w' w'':World} {L':List (Nat×Value)} {Inv:List (Nat×Value)→World→Prop} (h:RO P (ev n L') op w' v w'') (hI:Inv ((d,v)::L') w''):fR P n ⟨some d,op,ty,pos,after,none⟩ Inv L' w':=
 .inl ⟨d,v,w'',rfl,h _ _ _ _ _,hI⟩
theorem dy {op:Op} {ty:TypeId} {pos:String} {after:Array Edge} {w' w'':World} {L':List (Nat×Value)} {Inv:List (Nat×Value)→World→Prop} (h:RS P (ev n L') op w' w'') (hI:Inv L' w''):fR P n ⟨none,op,ty,pos,after,none⟩ Inv L' w':=
 .inr (.inl ⟨w'',rfl,h _ _ _ _ _,hI⟩)
def iy (L:List (Nat×Value)) (T:List (Nat×Nat×Value)) (S:Nat→Bool) (L':List (Nat×Value)):Prop:=
 (∀ t,(∀ p∈T,p.2.1≠t)→aM L' t=aM L t)∧(∀ p∈T,S p.1=true→aM L' p.2.1=p.2.2)∧∀ p∈T,S p.1=false→aM L' p.2.1=aM L p.2.1
def gW:List (Nat×Nat×Value)→Prop
 |[]=>True
 |p::r=>(∀ q∈r,q.1≠p.1∧q.2.1≠p.2.1)∧gW r
theorem lp:∀ {T:List (Nat×Nat×Value)},gW T→∀ {p q:Nat×Nat×Value},p∈T→q∈T→p.1=q.1∨p.2.1=q.2.1→p=q
 |_::_,⟨h1,h2⟩,p,q,hp,hq,he=>by
  rcases List.mem_cons.1 hp with rfl | hp' <;> rcases List.mem_cons.1 hq with rfl | hq'
  ·rfl
  ·rcases he with e | e
   ·exact absurd e.symm (h1 _ hq').1
   ·exact absurd e.symm (h1 _ hq').2
  ·rcases he with e | e
   ·exact absurd e (h1 _ hp').1
   ·exact absurd e (h1 _ hp').2
  ·exact lp h2 hp' hq' he
theorem iy.put {T:List (Nat×Nat×Value)} {S:Nat→Bool} {L':List (Nat×Value)} {i d:Nat} {v:Value} (h:iy L T S L') (hU:gW T) (hp:(i,d,v)∈T):iy L T (ck S i) ((d,v)::L'):=by
 refine ⟨fun t ht=>?_,fun p hq hs=>?_,fun p hq hs=>?_⟩
 ·rw [aW,if_neg (fun e=>ht _ hp e.symm)];exact h.1 t ht
 ·rw [aW];by_cases e:p.2.1=d
  ·rw [if_pos e,lp hU hq hp (.inr e)]
  ·rw [if_neg e];refine h.2.1 p hq ?_;unfold ck at hs;by_cases e2:p.1=i
   ·exact absurd (congrArg (·.2.1) (lp hU hq hp (.inl e2))) e
   ·rwa [if_neg e2] at hs
 ·unfold ck at hs;by_cases e2:p.1=i
  ·rw [if_pos e2] at hs;cases hs
  ·rw [if_neg e2] at hs;rw [aW,if_neg (fun e=>e2 (congrArg (·.1) (lp hU hq hp (.inr e))))];exact h.2.2 p hq hs
theorem iy.skip {T:List (Nat×Nat×Value)} {S:Nat→Bool} {L':List (Nat×Value)} {i:Nat} (h:iy L T S L') (hi:∀ p∈T,p.1≠i):iy L T (ck S i) L':=by
 refine ⟨h.1,fun p hq hs=>h.2.1 p hq ?_,fun p hq hs=>h.2.2 p hq ?_⟩ <;> (unfold ck at hs;rwa [if_neg (hi p hq)] at hs)
theorem iy.get {T:List (Nat×Nat×Value)} {S:Nat→Bool} {L':List (Nat×Value)} {i d:Nat} {v:Value} (h:iy L T S L') (hp:(i,d,v)∈T) (hs:S i=true):aM L' d=v:=h.2.1 _ hp hs
def fQ (S:Nat→Bool):List Edge→Prop
 |[]=>True
 |e::r=>(bif Region.binds .any e then S e.on=true else True)∧fQ S r
theorem jW {S:Nat→Bool}:∀ {es:List Edge},(∀ e∈es,Region.binds .any e=true→S e.on=true)→fQ S es
 |[],_=>trivial
 |e::r,h=>by
  refine ⟨?_,jW fun e' he=>h e' (.tail _ he)⟩;cases hb:Region.binds .any e with
  |true=>exact h e (.head _) hb
  |false=>trivial
def nG (P:Program) (n:Fr) (L:List (Nat×Value)) (T:List (Nat×Nat×Value)) (Mem:(Nat→Bool)→World→Prop):Nat→List Oper→Prop
 |_,[]=>True
 |i,o::r=>(∀ S L' w',iy L T S L'→Mem S w'→S i=false→fQ S o.after.toList→fR P n o (fun L2 w2=>iy L T (ck S i) L2∧Mem (ck S i) w2) L' w')∧nG P n L T Mem (i+1) r
theorem kJ {T:List (Nat×Nat×Value)} {Mem:(Nat→Bool)→World→Prop}:∀ {r:List Oper} {k:Nat},nG P n L T Mem k r→∀ (i:Nat) (o:Oper),r[i]? =some o→∀ S L' w',iy L T S L'→Mem S w'→S (k+i)=false→fQ S o.after.toList→fR P n o (fun L2 w2=>iy L T (ck S (k+i)) L2∧Mem (ck S (k+i)) w2) L' w'
 |[],_,_,i,o,h=>by simp at h
 |x::r,k,⟨h1,h2⟩,0,o,h=>by
  simp only [List.getElem?_cons_zero,Option.some.injEq] at h;subst h;exact h1
 |x::r,k,⟨h1,h2⟩,i+1,o,h=>by
  have:=kJ h2 i o (by simpa using h)
  rwa [show k+1+i=k+(i+1) by omega] at this
theorem qb {T:List (Nat×Nat×Value)} (_:gW T) {L L':List (Nat×Value)} {S:Nat→Bool} (h:iy L T S L') (hS:∀ p∈T,S p.1=true) (t:Nat):aM L' t=aM (T.map (fun p=>(p.2.1,p.2.2))++L) t:=by
 have key:∀ T':List (Nat×Nat×Value),(∀ p∈T',p∈T)→(∃ p∈T',p.2.1=t)∨(∀ p∈T',p.2.1≠t)→(∃ p∈T',p.2.1=t∧aM (T'.map (fun p=>(p.2.1,p.2.2))++L) t=p.2.2)∨((∀ p∈T',p.2.1≠t)∧aM (T'.map (fun p=>(p.2.1,p.2.2))++L) t=aM L t):=by
  intro T'
  induction T' with
  |nil=>exact fun _ _=>.inr ⟨fun p hp=>by simp at hp,rfl⟩
  |cons q r ih=>
   intro hsub _;rw [List.map_cons,List.cons_append,aW];by_cases e:q.2.1=t
   ·rw [if_pos e.symm];exact .inl ⟨q,.head _,e,rfl⟩
   ·rw [if_neg (Ne.symm e)];rcases ih (fun p hp=>hsub p (.tail _ hp)) (by by_cases hx:∃ p∈r,p.2.1=t;exact .inl hx;exact .inr fun p hp he=>hx ⟨p,hp,he⟩) with ⟨p,hp,h1,h2⟩ | ⟨h1,h2⟩
    ·exact .inl ⟨p,.tail _ hp,h1,h2⟩
    ·refine .inr ⟨fun p hp=>?_,h2⟩;rcases List.mem_cons.1 hp with rfl | hp2
     ·exact e
     ·exact h1 p hp2
 rcases key T (fun _ hp=>hp) (by by_cases hx:∃ p∈T,p.2.1=t;exact .inl hx;exact .inr fun p hp he=>hx ⟨p,hp,he⟩) with ⟨p,hp,h1,h2⟩ | ⟨h1,h2⟩
 ·rw [h2,←h1];exact h.2.1 p hp (hS p hp)
 ·rw [h2];exact h.1 t h1
theorem iu {id:Nat} (T:List (Nat×Nat×Value)) (Mem:(Nat→Bool)→World→Prop) (hm:P.follows .mixedOrders=true) (hwf:lM l=true) (hU:gW T) (hlt:∀ p∈T,p.1<l.length) (h0:Mem (fun _=>false) { w with drawn:=w.drawn+1 })
 (hstep:nG P n L T Mem 0 l) (hend:∀ w',Mem (fun i=>decide (i<l.length)) w'→Q .normal (mkA n (T.map (fun p=>(p.2.1,p.2.2))++L)) w'):Cd P (.region id l.toArray true) Q n L w:=by
 refine qA (fun S L' w'=>iy L T S L'∧Mem S w') hm hwf ⟨⟨fun _ _=>rfl,fun _ _ h=>(by cases h),fun _ _ _=>rfl⟩,h0⟩ (fun i o S L' w' ho ⟨hI,hM⟩ hS hE=>?_) fun L' w' ⟨hI,hM⟩=>?_
 ·have:=kJ hstep i o ho S L' w' hI hM (by rw [Nat.zero_add];exact hS) (jW fun e he=>hE e (by simpa using he))
  rwa [Nat.zero_add] at this
 ·have h:=hend w' hM
  have e:mkA n L'=mkA n (T.map (fun p=>(p.2.1,p.2.2))++L):=by
   unfold mkA;rw [iI fun t _=>qb hU hI (fun p hp=>decide_eq_true (hlt p hp)) t]
  rw [e];exact h
theorem en {t:TypeId} {x y:Operand} {g i:Nat} {u:TypeId} {cs:Array Value} {v:Value} (ht:cr P t=some 1) (hx:ev n L x=.pointer (some ⟨g,i,none⟩)) (hy:ev n L y=v) (h1:v.oneCell'=true) (hb:Blk w g u cs) (hi:i<cs.size) :
 ∃ w',RS P (ev n L) (.store t x y) w w'∧b_ g w w'∧Blk w' g u (cs.setIfInBounds i v):=by
 have hc:w.cell? ⟨g,i,none⟩=some (cs[i]'hi):=by rw [hb.cell];simp [hi]
 exact ⟨_,hH ht hx hy h1 hc (hb.frozen i),b_.setCell w g i v,hb.set_ i v⟩
end
end Go.Proofs.YtdimnaiiaekngaaDoor
namespace Go.Proofs.YtdimnaiiaekngaaDoor
open Go.Proofs.Tryd (prog)
open Go.RowKit
def tK (w:World) (base:Nat) (e:TypeId) (A:Option Addr) (n c:Nat) (xs:List Value):Prop:=
 xs.length=n∧n≤c∧c≤maxLen∧∃ g off cs,A=some ⟨g,off,none⟩∧base≤g∧Blk w g e cs∧off+c≤cs.size∧(cs.toList.drop off).take n=xs
section
variable {P:Program} {Q:Exit→Act→World→Prop} {n:Fr} {L:List (Nat×Value)} {w:World} {l:List Oper}
def sJ (P:Program) (n:Fr) (Inv:(Nat→Bool)→List (Nat×Value)→World→Prop):Nat→List Oper→Prop
 |_,[]=>True
 |i,o::r=>(∀ S L' w',Inv S L' w'→S i=false→fQ S o.after.toList→fR P n o (Inv (ck S i)) L' w')∧sJ P n Inv (i+1) r
end
theorem jI {P:Program} {ρ:Operand→Value} {w:World} {s x:Operand} {t base:Nat} {A A2:Option Addr} {m j cap c2 e size by_:Nat} {z:Value} {xs news:List Value} (hq:dO P t=some (e,size,by_,z)) (hzs:z.cells.size=size) (hs0:0<size)
 (hs:ρ s=.slice A m cap) (hown:w.ownsRow base e size (.slice A m cap) m xs) (hB:base≤w.heap.size)
 (hx:ρ x=.slice A2 j c2) (hl:news.length=j*size) (hsrc:∃ b o,A2=some ⟨b,o,none⟩∧w.rangeAt b o news) (h1:∀ u∈news,u.oneCell'=true) (h63:m+j≤9223372036854775807) (hby:(m+j)*by_≤140737488355328) :
 ∃ A' cap' w',RO P ρ (.call { callee:=.builtin .append,args:=#[s,x],argTypes:=#[t,t] }) w (.slice A' (m+j) cap') w'∧w'.ownsRow base e size (.slice A' (m+j) cap') (m+j) (xs++news)∧w.grownBy w' (A.map (·.block))∧(A'.map (·.block)=A.map (·.block)∨A'.map (·.block)=some w.heap.size):=by
 obtain ⟨i,hu,hi,hsz,hb,hz⟩:=ga hq;obtain ⟨b,o,rfl,hr⟩:=hsrc;have hobl:∀ (A:Option Addr) (m c:Nat),(Value.slice A m c).ownBlock=A.map (·.block):=fun A m c=>by cases A <;> rfl
 obtain ⟨v',w',hrun,hown',hg,_,h5⟩:=run_append_own_at (P:=P) w base t 0 e i z size by_ hu hi hz hsz hb hzs hs0 _ m xs hown ⟨b,o,none⟩ j c2 news hl (fun i u hu=>by rw [Addr.add_mid];exact hr i u hu) h1 (by unfold maxLen;omega) hby hB;obtain ⟨A',cap',rfl⟩:=jO hown';rw [hobl,hobl] at h5;refine ⟨A',cap',w',fun dst ty pos after g=>?_,hown',by rw [←hobl A m cap];exact hg,h5⟩;have hty:(Builtin.append_ #[t,t] ty #[.slice A m cap,.slice (some ⟨b,o,none⟩) j c2]).run P w=(Builtin.append_ #[t,t] 0 #[.slice A m cap,.slice (some ⟨b,o,none⟩) j c2]).run P w:=rfl;unfold execOp;simp only [resolve,invoke,builtin,Sem.run_bind,Sem.run_pure,Result.andThen_ok,List.map_toArray,List.map_cons,List.map_nil,hs,hx,hty,hrun]
end Go.Proofs.YtdimnaiiaekngaaDoor
namespace Go.Proofs.YtdimnaiiaekngaaDoor
open Go.Proofs.Tryd (prog)
open Go.RowKit Go.ChangeShapes Go.WideShapes Go.ChangeAt
def lk (A B:Option Addr):Prop:=∀ p,A.map (·.block)=some p→∀ q,B.map (·.block)=some q→p≠q
theorem lk.none_ {B:Option Addr}:lk none B:=fun p hp=>by cases hp
theorem oT {w w':World} {base e s n c:Nat} {A B:Option Addr} {xs:List Value} (h:w.ownsRow base e s (.slice A n c) n xs) (hg:w.grownBy w' (B.map (·.block))) (hne:lk B A):w'.ownsRow base e s (.slice A n c) n xs:=by
 refine ⟨h.1,?_⟩;rcases h.2 with h0 | ⟨g,cap,cur,h1,h2,h3,h4⟩
 ·exact .inl h0
 ·refine .inr ⟨g,cap,cur,h1,h2,?_,h4⟩;simp only [Value.slice.injEq] at h1;obtain ⟨rfl,_,_⟩:=h1
  have hlt:g<w.heap.size:=by
   rcases Nat.lt_or_ge g w.heap.size with a | a
   ·exact a
   ·rw [Array.getElem?_eq_none a] at h3;cases h3
  exact (hg.block g hlt fun e=>hne g e.symm g rfl rfl).trans h3
theorem oU {w:World} {b1 b2 e1 e2 s1 s2 n1 n2 c1 c2:Nat} {A1 A2:Option Addr} {xs1 xs2:List Value} (h1:w.ownsRow b1 e1 s1 (.slice A1 n1 c1) n1 xs1) (h2:w.ownsRow b2 e2 s2 (.slice A2 n2 c2) n2 xs2) (hne:e1≠e2):lk A1 A2:=fun p hp q hq e=>by
 rcases h1.2 with ⟨k1,_⟩ | ⟨g1,cap1,cur1,k1,_,k2,_⟩
 ·simp only [Value.slice.injEq] at k1;rw [k1.1] at hp;cases hp
 ·rcases h2.2 with ⟨j1,_⟩ | ⟨g2,cap2,cur2,j1,_,j2,_⟩
  ·simp only [Value.slice.injEq] at j1;rw [j1.1] at hq;cases hq
  ·simp only [Value.slice.injEq] at k1 j1;rw [k1.1] at hp;rw [j1.1] at hq;cases hp;cases hq;have e:g1=g2:=e;rw [e,j2] at k2;simp only [Option.some.injEq,Obj.cells.injEq] at k2;exact hne k2.2.1.symm
section
variable {P:Program} {ops:Array Oper} {Q:Exit→Act→World→Prop} {rest:List Oper} {n:Fr} {L:List (Nat×Value)} {w:World} {ty:TypeId} {pos:String} {after:Array Edge} {d:Nat} {t:TypeId} {s x y:Operand}
theorem nc {base:Nat} {A A2:Option Addr} {m j cap c2 e size by_:Nat} {z:Value} {xs news:List Value} (hq:dO P t=some (e,size,by_,z)) (hzs:z.cells.size=size) (hs0:0<size)
 (hs:ev n L s=.slice A m cap) (hown:w.ownsRow base e size (.slice A m cap) m xs) (hB:base≤w.heap.size)
 (hx:ev n L x=.slice A2 j c2) (hl:news.length=j*size) (hsrc:∃ b o,A2=some ⟨b,o,none⟩∧w.rangeAt b o news) (h1:∀ u∈news,u.oneCell'=true) (h63:m+j≤9223372036854775807) (hby:(m+j)*by_≤140737488355328)
 (k:∀ A' cap' w',w'.ownsRow base e size (.slice A' (m+j) cap') (m+j) (xs++news)→w.grownBy w' (A.map (·.block))→(A'.map (·.block)=A.map (·.block)∨A'.map (·.block)=some w.heap.size)→St P ops Q rest n ((d,.slice A' (m+j) cap')::L) w') :
 St P ops Q (⟨some d,.call { callee:=.builtin .append,args:=#[s,x],argTypes:=#[t,t] },ty,pos,after,none⟩::rest) n L w:=by
 obtain ⟨A',cap',w',hR,h2,h3,h4⟩:=jI (P:=P) (ρ:=ev n L) (s:=s) (x:=x) (w:=w) hq hzs hs0 hs hown hB hx hl hsrc h1 h63 hby;exact aa hR (k A' cap' w' h2 h3 h4)
theorem jA {e by_:Nat} {z v z0 z1 u0 u1:Value} (hq:dO P t=some (e,2,by_,z)) (hz:z.cells=#[z0,z1]) (hx:ev n L x=v) (hv:v.cells=#[u0,u1])
 (k:∀ g w',ai w w'→g=w.heap.size→Blk w' g e #[u0,u1]→St P ops Q rest n ((d,.slice (some ⟨g,0,none⟩) 1 1)::L) w'):St P ops Q (⟨some d,.buildSlice t 1 #[(0,x)],ty,pos,after,none⟩::rest) n L w:=by
 refine lq (l:=[(0,x)]) (cells:=#[u0,u1]) hq rfl rfl ?_ k
 have e1:(Array.range (1*2)).map (z.cells[·%z.cells.size]!)=#[z0,z1]:=by
  rw [hz,show Array.range (1*2)=#[0,1] from rfl];simp
 rw [e1];simp [Instr.fill,hx,hv]
end
end Go.Proofs.YtdimnaiiaekngaaDoor
namespace Go.Proofs.YtdimnaiiaekngaaDoor
open Go.Proofs.Tryd (prog)
open Go.RowKit Go.ChangeShapes Go.WideShapes Go.ChangeAt
structure Chg (U:Nat→Prop) (w w':World):Prop where
 os:w'.os=w.os
 tape:w'.tape=w.tape
 output:w'.output=w.output
 size:w.heap.size≤w'.heap.size
 block:∀ k,k<w.heap.size→¬ U k→w'.heap[k]? =w.heap[k]?
section
variable {U V:Nat→Prop} {a w w' w2:World}
theorem Chg.rfl_:Chg U w w:=⟨rfl,rfl,rfl,Nat.le_refl _,fun _ _ _=>rfl⟩
theorem ai.toChg (h:ai w w'):Chg U w w':=⟨h.os,h.tape,h.output,h.size,fun k hk _=>h.block k hk⟩
theorem b_.toChg {g:Nat} (h:b_ g w w') (hg:U g):Chg U w w':=⟨h.os,h.tape,h.output,Nat.le_of_eq h.size.symm,fun k _ hu=>h.block k (fun e=>hu (e ▸ hg))⟩
theorem Chg.of_grown {r:Option Nat} (h:w.grownBy w' r) (hr:∀ k,r=some k→U k):Chg U w w':=⟨h.os,h.tape,h.output,h.size,fun k hk hu=>h.block k hk (fun e=>hu (hr k e.symm))⟩
theorem Chg.trans (h:Chg U w w') (k:Chg V w' w2) (hV:∀ i,V i→U i∨w.heap.size≤i):Chg U w w2:=⟨k.os.trans h.os,k.tape.trans h.tape,k.output.trans h.output,Nat.le_trans h.size k.size,fun i hi hu=>by
 refine (k.block i (Nat.lt_of_lt_of_le hi h.size) fun hv=>?_).trans (h.block i hi hu);rcases hV i hv with e | e
 ·exact hu e
 ·omega⟩
theorem Chg.next (h:Chg U w w') (k:Chg U w' w2):Chg U w w2:=h.trans k fun _ h=>.inl h
theorem Chg.wide (h:Chg U w w') (hV:∀ i,U i→V i∨w.heap.size≤i):Chg V w w':=(Chg.rfl_ (U:=V)).trans h hV
theorem ai.chg (h:ai a w) (c:Chg U w w') (hU:∀ k,U k→a.heap.size≤k):ai a w':=⟨c.os.trans h.os,c.tape.trans h.tape,c.output.trans h.output,Nat.le_trans h.size c.size,fun k hk=>(c.block k (Nat.lt_of_lt_of_le hk h.size) (fun hu=>by have:=hU k hu;omega)).trans (h.block k hk)⟩
theorem Blk.chg {g:Nat} {t:TypeId} {cs:Array Value} (h:Blk w g t cs) (c:Chg U w w') (hg:¬ U g):Blk w' g t cs:=(c.block g h.lt hg).trans h
theorem ic {base e s n c:Nat} {A:Option Addr} {xs:List Value} (h:w.ownsRow base e s (.slice A n c) n xs) (hc:Chg U w w') (hA:∀ q,A.map (·.block)=some q→¬ U q):w'.ownsRow base e s (.slice A n c) n xs:=by
 refine ⟨h.1,?_⟩;rcases h.2 with h0 | ⟨g,cap,cur,h1,h2,h3,h4⟩
 ·exact .inl h0
 ·refine .inr ⟨g,cap,cur,h1,h2,?_,h4⟩;simp only [Value.slice.injEq] at h1;obtain ⟨rfl,_,_⟩:=h1
  have hlt:g<w.heap.size:=by
   rcases Nat.lt_or_ge g w.heap.size with a | a
   ·exact a
   ·rw [Array.getElem?_eq_none a] at h3;cases h3
  exact (hc.block g hlt (hA g rfl)).trans h3
end
def tF (w w':World) (n:Nat):World:={ w' with heap:=w'.heap.mapIdx fun i o=>if i<n then o else (w.heap[i]?).getD o }
end Go.Proofs.YtdimnaiiaekngaaDoor
namespace Go.Proofs.YtdimnaiiaekngaaDoor
open Go.Proofs.Tryd (prog)
def tJ (w:World) (v:Value) (vs:List Value):Prop:=Row w v vs∧∃ A cap,v=.slice A vs.length cap∧vs.length≤cap∧cap≤9223372036854775807
def tA (A:Option Addr) (cap k:Nat):Option Addr:=if cap=k then A else A.map (·.add k)
def dG (s:ByteArray):List Nat:=s.data.toList.map (·.toNat)
theorem cS (s:ByteArray):(dG s).length=s.size:=by rw [dG,List.length_map,Array.length_toList];rfl
theorem qP (s:ByteArray):∀ b∈dG s,b<256:=by
 intro b hb;simp only [dG,List.mem_map] at hb;obtain ⟨x,_,rfl⟩:=hb;exact x.toNat_lt
def aT (l:List Nat):List Value:=l.map fun (x:Nat)=>.int .u8 x
theorem aH (l:List Nat):(aT l).length=l.length:=by simp [aT]
theorem cJ (l m:List Nat):aT (l++m)=aT l++aT m:=by simp [aT]
theorem eS (l:List Nat):∀ u∈aT l,u.oneCell'=true:=by
 intro u hu;simp only [aT,List.mem_map] at hu;obtain ⟨b,_,rfl⟩:=hu;rfl
end Go.Proofs.YtdimnaiiaekngaaDoor
namespace Go.Proofs.YtdimnaiiaekngaaDoor
open Go.Proofs.Tryd (prog)
open Go.RowKit Go.ChangeShapes Go.WideShapes Go.ChangeAt
abbrev Fe:=ByteArray×List Nat×List Nat
def KS (D:List Fe):Prop:=D.Pairwise fun a b=>sLt a.1 b.1
def eR (D:List Fe) (id:ByteArray):Bool:=D.any fun e=>decide (e.1=id)
def dI (D:List Fe) (id:ByteArray):List Nat:=((D.find? fun e=>decide (e.1=id)).map (·.2.1)).getD []
def nC (D:List Fe) (id:ByteArray):List Nat:=((D.find? fun e=>decide (e.1=id)).map (·.2.2)).getD []
def oS (D:List Fe) (id:ByteArray) (vs:List Nat):List Fe:=D.map fun e=>if e.1=id then (e.1,vs,e.2.2) else e
def pZ (D:List Fe) (id:ByteArray) (vs:List Nat):List Fe:=D.map fun e=>if e.1=id then (e.1,e.2.1,vs) else e
def eX (D:List Fe) (e:Fe):List Fe:=(D.takeWhile fun x=>decide (x.1.toList<e.1.toList))++e::D.dropWhile fun x=>decide (x.1.toList<e.1.toList)
def eY (D:List Fe) (id:ByteArray):List Fe:=D.filter fun e=>decide (e.1≠id)
theorem jC {a b:ByteArray} (h:sLt a b):a≠b:=fun e=>nj b (e ▸ h)
structure KAt (D:List Fe) (id:ByteArray) (i:Nat):Prop where
 le:i≤D.length
 lo:∀ x (h:x<D.length),x<i→sLt D[x].1 id
 hi:∀ x (h:x<D.length),i≤x→¬ sLt D[x].1 id
section
variable {D:List Fe} {id:ByteArray} {i:Nat}
theorem KS.cmp (h:KS D) {x y:Nat} (hxy:x<y) (hy:y<D.length):sLt (D[x]'(Nat.lt_trans hxy hy)).1 D[y].1:=List.pairwise_iff_getElem.1 h x y _ hy hxy
theorem rW {α:Type} {p:α→Bool}:∀ {l:List α} {i:Nat},i≤l.length→(∀ x (h:x<l.length),x<i→p l[x]=true)→(∀ h:i<l.length,p l[i]=false)→l.takeWhile p=l.take i∧l.dropWhile p=l.drop i
 |[],i,hi,_,_=>by obtain rfl:i=0:=Nat.le_zero.1 hi;exact ⟨rfl,rfl⟩
 |a::l,0,_,_,h=>by
  have h0:=h (Nat.zero_lt_succ _);simp only [List.getElem_cons_zero] at h0;simp [List.takeWhile,List.dropWhile,h0]
 |a::l,i+1,hi,h1,h2=>by
  have h0:=h1 0 (Nat.zero_lt_succ _) (Nat.zero_lt_succ _);simp only [List.getElem_cons_zero] at h0;obtain ⟨e1,e2⟩:=rW (p:=p) (l:=l) (i:=i) (Nat.le_of_succ_le_succ hi) (fun x hx hxi=>by have:=h1 (x+1) (Nat.succ_lt_succ hx) (Nat.succ_lt_succ hxi);simpa using this) (fun hx=>by have:=h2 (Nat.succ_lt_succ hx);simpa using this);simp [List.takeWhile,List.dropWhile,h0,e1,e2]
theorem KAt.ins (h:KAt D id i) {vs ds:List Nat}:eX D (id,vs,ds)=D.take i++(id,vs,ds)::D.drop i:=by
 obtain ⟨e1,e2⟩:=rW (p:=fun x:Fe=>decide (x.1.toList<id.toList)) h.le (fun x hx hxi=>decide_eq_true (h.lo x hx hxi)) (fun hx=>decide_eq_false (h.hi i hx (Nat.le_refl _)));unfold eX;rw [e1,e2]
theorem KAt.no (h:KAt D id i) (hn:¬ ∃ h:i<D.length,D[i].1=id) (hs:KS D):∀ e∈D,e.1≠id:=fun e he=>by
 obtain ⟨x,hx,rfl⟩:=List.getElem_of_mem he;rcases Nat.lt_trichotomy x i with a | a | a
 ·exact jC (h.lo x hx a)
 ·subst a;exact fun e=>hn ⟨hx,e⟩
 ·intro e;have h1:=hs.cmp a hx;rw [e] at h1;exact h.hi i (by omega) (Nat.le_refl _) h1
theorem fx:eR D id=true↔∃ e∈D,e.1=id:=by unfold eR;simp
theorem KAt.has (h:KAt D id i) (hs:KS D):eR D id=true↔∃ h:i<D.length,D[i].1=id:=by
 rw [fx];refine ⟨fun ⟨e,he,h2⟩=>?_,fun ⟨h1,h2⟩=>⟨_,List.getElem_mem h1,h2⟩⟩;by_cases k:∃ h:i<D.length,D[i].1=id
 ·exact k
 ·exact absurd h2 (h.no k hs e he)
theorem rI (hn:∀ e∈D,e.1≠id):D.find? (fun e=>decide (e.1=id))=none:=List.find?_eq_none.2 fun e he=>by simpa using hn e he
theorem oi (hn:∀ e∈D,e.1≠id):dI D id=[]:=by unfold dI;rw [rI hn];rfl
theorem KS.uniq (hs:KS D) {x y:Nat} (hx:x<D.length) (hy:y<D.length) (h:D[x].1=D[y].1):x=y:=by
 rcases Nat.lt_trichotomy x y with a | a | a
 ·exact absurd h (jC (hs.cmp a hy))
 ·exact a
 ·exact absurd h.symm (jC (hs.cmp a hx))
theorem ot (hs:KS D) (hi:i<D.length) (he:D[i].1=id):D.find? (fun e=>decide (e.1=id))=some D[i]:=by
 have h1:(D.find? (fun e=>decide (e.1=id))).isSome=true:=by rw [List.find?_isSome];exact ⟨_,List.getElem_mem hi,by simpa using he⟩
 obtain ⟨a,ha⟩:=Option.isSome_iff_exists.1 h1;have h2:=List.find?_some ha;have h3:a∈D:=List.mem_of_find?_eq_some ha;obtain ⟨x,hx,rfl⟩:=List.getElem_of_mem h3;have h4:D[x].1=id:=by simpa using h2
 rw [ha,getElem_congr_idx (hs.uniq hx hi (h4.trans he.symm))]
theorem gE (hs:KS D) (hi:i<D.length) (he:D[i].1=id):dI D id=D[i].2.1:=by unfold dI;rw [ot hs hi he];rfl
theorem oo (hs:KS D) (hi:i<D.length) (he:D[i].1=id):nC D id=D[i].2.2:=by unfold nC;rw [ot hs hi he];rfl
theorem nv (hs:KS D) (hi:i<D.length) (he:D[i].1=id) (g:Fe→Fe):D.map (fun e=>if e.1=id then g e else e)=D.set i (g D[i]):=by
 apply List.ext_getElem
 ·simp
 ·intro x h1 h2;rw [List.length_map] at h1;rw [List.getElem_map,List.getElem_set];by_cases e:i=x
  ·subst e;rw [if_pos he,if_pos rfl]
  ·rw [if_neg e,if_neg (fun h=>e (hs.uniq hi h1 (he.trans h.symm)))]
theorem ri (hs:KS D) (hi:i<D.length) (he:D[i].1=id) (vs:List Nat):oS D id vs=D.set i (id,vs,D[i].2.2):=by
 unfold oS;rw [nv hs hi he (fun e=>(e.1,vs,e.2.2)),he]
theorem rj (hs:KS D) (hi:i<D.length) (he:D[i].1=id) (vs:List Nat):pZ D id vs=D.set i (id,D[i].2.1,vs):=by
 unfold pZ;rw [nv hs hi he (fun e=>(e.1,e.2.1,vs)),he]
theorem rK (hn:∀ e∈D,e.1≠id):eY D id=D:=List.filter_eq_self.2 fun e he=>by simpa using hn e he
theorem rL (hs:KS D) (hi:i<D.length) (he:D[i].1=id):eY D id=D.take i++D.drop (i+1):=by
 have hx:D=D.take i++D[i]::D.drop (i+1):=by rw [←List.drop_eq_getElem_cons hi,List.take_append_drop]
 unfold eY
 conv=>lhs;rw [hx]
 rw [List.filter_append,List.filter_cons_of_neg (by simpa using he),List.filter_eq_self.2,List.filter_eq_self.2]
 ·intro e hm;obtain ⟨x,hx1,hx2⟩:=List.getElem_of_mem hm;rw [List.length_drop] at hx1;rw [List.getElem_drop] at hx2;have:=hs.cmp (show i<i+1+x by omega) (by omega);rw [hx2,he] at this;simpa using (jC this).symm
 ·intro e hm;obtain ⟨x,hx1,hx2⟩:=List.getElem_of_mem hm;rw [List.length_take] at hx1;rw [List.getElem_take] at hx2;have:=hs.cmp (show x<i by omega) hi;rw [hx2,he] at this;simpa using jC this
theorem KS.sub {E:List Fe} (h:KS D) (k:E.Sublist D):KS E:=List.Pairwise.sublist k h
theorem KS.del (h:KS D) (id:ByteArray):KS (eY D id):=h.sub List.filter_sublist
theorem KS.map {f:Fe→Fe} (h:KS D) (hf:∀ e,(f e).1=e.1):KS (D.map f):=by
 unfold KS;rw [List.pairwise_map];exact List.Pairwise.imp (fun {a b} k=>by rw [hf,hf];exact k) h
theorem KAt.ks (h:KAt D id i) (hs:KS D) (hn:∀ e∈D,e.1≠id) (vs ds:List Nat):KS (D.take i++(id,vs,ds)::D.drop i):=by
 unfold KS;rw [List.pairwise_append,List.pairwise_cons];refine ⟨hs.sub (List.take_sublist _ _),⟨fun e he=>?_,hs.sub (List.drop_sublist _ _)⟩,fun a ha b hb=>?_⟩
 ·obtain ⟨x,hx1,hx2⟩:=List.getElem_of_mem he;rw [List.length_drop] at hx1;rw [List.getElem_drop] at hx2;have h1:=h.hi (i+x) (by omega) (by omega);rw [hx2] at h1;rcases ra e.1 id with a | a | a
  ·exact absurd a h1
  ·exact absurd a (hn e (List.mem_of_mem_drop he))
  ·exact a
 ·obtain ⟨x,hx1,hx2⟩:=List.getElem_of_mem ha;rw [List.length_take] at hx1;rw [List.getElem_take] at hx2;have h1:=h.lo x (by omega) (by omega);rw [hx2] at h1;rcases List.mem_cons.1 hb with rfl | hb
  ·exact h1
  ·obtain ⟨y,hy1,hy2⟩:=List.getElem_of_mem hb;rw [List.length_drop] at hy1;rw [List.getElem_drop] at hy2;have h2:=hs.cmp (show x<i+y by omega) (by omega);rw [hx2,hy2] at h2;exact h2
theorem KS.ex (hs:KS D) (id:ByteArray):∃ i,KAt D id i:=by
 induction D with
 |nil=>exact ⟨0,Nat.le_refl _,fun x h=>absurd h (Nat.not_lt_zero _),fun x h=>absurd h (Nat.not_lt_zero _)⟩
 |cons a l ih=>
  obtain ⟨i,h⟩:=ih (List.Pairwise.of_cons hs);by_cases k:sLt a.1 id
  ·refine ⟨i+1,Nat.succ_le_succ h.le,fun x hx hxi=>?_,fun x hx hxi=>?_⟩
   ·match x with
    |0=>exact k
    |x+1=>exact h.lo x (Nat.lt_of_succ_lt_succ hx) (Nat.lt_of_succ_lt_succ hxi)
   ·match x with
    |0=>omega
    |x+1=>exact h.hi x (Nat.lt_of_succ_lt_succ hx) (Nat.le_of_succ_le_succ hxi)
  ·refine ⟨0,Nat.zero_le _,fun x hx hxi=>absurd hxi (Nat.not_lt_zero _),fun x hx _ h2=>?_⟩
   match x with
   |0=>exact k h2
   |x+1=>exact k (gA (hs.cmp (Nat.zero_lt_succ x) hx) h2)
theorem KS.ins (hs:KS D) (hn:∀ e∈D,e.1≠id) (vs ds:List Nat):KS (eX D (id,vs,ds)):=by
 obtain ⟨i,h⟩:=hs.ex id;rw [h.ins];exact h.ks hs hn vs ds
theorem my {e x:Fe}:x∈eX D e↔x=e∨x∈D:=by
 unfold eX;rw [List.mem_append,List.mem_cons]
 conv=>rhs;rw [←List.takeWhile_append_dropWhile (p:=fun x:Fe=>decide (x.1.toList<e.1.toList)) (l:=D)]
 rw [List.mem_append];exact ⟨fun h=>h.elim (fun h=>.inr (.inl h)) fun h=>h.elim .inl fun h=>.inr (.inr h),fun h=>h.elim (fun h=>.inr (.inl h)) fun h=>h.elim .inl fun h=>.inr (.inr h)⟩
theorem mz (D:List Fe) (e:Fe):(eX D e).length=D.length+1:=by
 unfold eX;rw [List.length_append,List.length_cons];have:=congrArg List.length (List.takeWhile_append_dropWhile (p:=fun x:Fe=>decide (x.1.toList<e.1.toList)) (l:=D));rw [List.length_append] at this;omega
theorem ir {x:Fe}:x∈eY D id↔x∈D∧x.1≠id:=by unfold eY;rw [List.mem_filter];simp
end
structure RB (w:World) (A:Option Addr) (c:Nat) (l:List Nat):Prop where
 le:l.length≤c
 mx:c≤9223372036854775807
 at_:0<l.length→∃ b o,A=some ⟨b,o,none⟩∧w.rangeAt b o (aT l)
 bt:∀ b∈l,b<256
def TyB (w:World) (A:Option Addr):Prop:=∀ q,A.map (·.block)=some q→∃ cs fr,w.heap[q]? =some (.cells cs 5 fr)
section
variable {V:Nat→Prop} {w w':World} {A:Option Addr} {c:Nat} {l:List Nat}
theorem TyB.lt (h:TyB w A):∀ q,A.map (·.block)=some q→q<w.heap.size:=fun q hq=>by
 obtain ⟨cs,fr,h1⟩:=h q hq;exact (Array.getElem?_eq_some_iff.1 h1).1
theorem TyB.chg (h:TyB w A) (hc:Chg V w w') (hV:∀ q,A.map (·.block)=some q→¬ V q):TyB w' A:=fun q hq=>by
 obtain ⟨cs,fr,h1⟩:=h q hq;exact ⟨cs,fr,(hc.block q (h.lt q hq) (hV q hq)).trans h1⟩
theorem TyB.from_ (h:TyB w A) (hF:ai w w'):TyB w' A:=h.chg (V:=fun _=>False) hF.toChg fun _ _ h=>h
theorem TyB.none_ (w:World):TyB w none:=fun q hq=>by cases hq
theorem TyB.own {base n:Nat} {xs:List Value} (h:w.ownsRow base 5 1 (.slice A n c) n xs):TyB w A:=fun q hq=>by
 rcases h.2 with ⟨h1,h0⟩ | ⟨g,cap,cur,h1,hg,h2,_⟩
 ·simp only [Value.slice.injEq] at h1;rw [h1.1] at hq;cases hq
 ·simp only [Value.slice.injEq] at h1;rw [h1.1] at hq;cases hq;exact ⟨_,_,h2⟩
theorem kN {b o:Nat} {xs:List Value} (h:w.rangeAt b o xs) (hc:Chg V w w') (hb:b<w.heap.size) (hv:¬ V b):w'.rangeAt b o xs:=fun j v hj=>by
 have:=h j v hj;unfold World.cell? at this ⊢;show (match w'.heap[b]? with | some (.cells cs _ _)=>_ | _=>_)=_;rw [hc.block b hb hv];exact this
theorem RB.chg (h:RB w A c l) (hc:Chg V w w') (hV:∀ q,A.map (·.block)=some q→¬ V q):RB w' A c l:=by
 refine ⟨h.le,h.mx,fun h0=>?_,h.bt⟩;obtain ⟨b,o,rfl,hr⟩:=h.at_ h0;have hv:(aT l)[0]? =some ((aT l)[0]'(by rw [aH];exact h0)):=List.getElem?_eq_getElem _;exact ⟨b,o,rfl,kN hr hc (World.block_lt_of_cell? _ _ (hr 0 _ hv)) (hV b rfl)⟩
theorem RB.from_ (h:RB w A c l) (hF:ai w w'):RB w' A c l:=h.chg (V:=fun _=>False) hF.toChg fun _ _ h=>h
theorem RB.own {base n:Nat} (h:w.ownsRow base 5 1 (.slice A n c) n (aT l)) (hb:∀ b∈l,b<256):n=l.length∧RB w A c l:=by
 have hl:n=l.length:=by have:=h.1;rw [aH] at this;omega
 subst hl;refine ⟨rfl,?_⟩;rcases h.2 with ⟨h1,h0⟩ | ⟨g,cap,cur,h1,hg,h2,h3,h4,h5,h6⟩
 ·simp only [Value.slice.injEq] at h1;obtain ⟨rfl,h7,rfl⟩:=h1;exact ⟨by omega,by omega,fun h=>by omega,hb⟩
 ·simp only [Value.slice.injEq,true_and] at h1;obtain ⟨rfl,rfl⟩:=h1;unfold maxLen at h4;refine ⟨h3,by omega,fun _=>⟨g,0,rfl,fun j v hj=>?_⟩,hb⟩
  ·rw [Nat.zero_add];unfold World.cell?;show (match w.heap[g]? with | some (.cells cs _ _)=>_ | _=>_)=_;rw [h2];show cur[j]? =some v;rw [Nat.mul_one] at h6;rw [←h6] at hj;rw [List.getElem?_take] at hj;split at hj
   ·simpa using hj
   ·cases hj
theorem RB.nil_ (w:World):RB w none 0 []:=⟨Nat.le_refl _,by omega,fun h=>absurd h (Nat.lt_irrefl _),fun b hb=>(by cases hb)⟩
theorem RB.pre {r:List Nat} (h:RB w A c (l++r)):RB w A c l:=by
 have h1:=h.le;rw [List.length_append] at h1;refine ⟨by omega,h.mx,fun h0=>?_,fun b hb=>h.bt b (List.mem_append_left _ hb)⟩;obtain ⟨b,o,e,hr⟩:=h.at_ (by rw [List.length_append];omega);refine ⟨b,o,e,fun j v hj=>hr j v ?_⟩;rw [cJ];exact List.getElem?_append_left (List.getElem?_eq_some_iff.1 hj).1 ▸ hj
theorem RB.cap {c':Nat} (h:RB w A c l) (h1:l.length≤c') (h2:c'≤9223372036854775807):RB w A c' l:=⟨h1,h2,h.at_,h.bt⟩
end
structure Fl where
 nm:ByteArray
 vA:Option Addr
 vc:Nat
 dA:Option Addr
 dc:Nat
 vs:List Nat
 ds:List Nat
 own:Bool
def Fl.abs (f:Fl):Fe:=(f.nm,f.vs,f.ds)
def flV (f:Fl):List Value:=[.string f.nm,.slice f.vA f.vs.length f.vc,.slice f.dA f.ds.length f.dc]
def Fz:Fl:=⟨⟨#[]⟩,none,0,none,0,[],[],true⟩
instance:Inhabited Fl:=⟨Fz⟩
theorem eE (f:Fl):(flV f).length=3:=rfl
theorem gb (f:Fl):∀ u∈flV f,u.oneCell'=true:=by simp [flV,Value.oneCell']
theorem lJ (l:List Fl):∀ u∈l.flatMap flV,u.oneCell'=true:=qt fun x _ u hu=>gb x u hu
def Fl.B (f:Fl) (k:Nat):Prop:=f.vA.map (·.block)=some k∨f.dA.map (·.block)=some k
structure ew (w:World) (f:Fl):Prop where
 v:RB w f.vA f.vc f.vs
 d:RB w f.dA f.dc f.ds
 vt:TyB w f.vA
 dt:TyB w f.dA
 o:f.own=true→w.ownsRow 0 5 1 (.slice f.vA f.vs.length f.vc) f.vs.length (aT f.vs)∧(lk f.vA f.dA∨(f.dA=f.vA∧∃ r,f.vs=f.ds++r))
 n:f.own=false→(∃ a,f.vA=some a)∧f.vc=f.vs.length
def Sep (f g:Fl):Prop:=(f.own=true→∀ k,f.vA.map (·.block)=some k→¬ g.B k)∧(g.own=true→∀ k,g.vA.map (·.block)=some k→¬ f.B k)
theorem Sep.symm {f g:Fl} (h:Sep f g):Sep g f:=⟨h.2,h.1⟩
section
variable {V:Nat→Prop} {w w':World} {f:Fl}
theorem ew.chg (h:ew w f) (c:Chg V w w') (hV:∀ k,f.B k→¬ V k):ew w' f:=
 ⟨h.v.chg c fun q hq=>hV q (.inl hq),h.d.chg c fun q hq=>hV q (.inr hq),h.vt.chg c fun q hq=>hV q (.inl hq),h.dt.chg c fun q hq=>hV q (.inr hq),fun ho=>⟨ic (h.o ho).1 c fun q hq=>hV q (.inl hq),(h.o ho).2⟩,h.n⟩
theorem ew.lt (h:ew w f) {k:Nat} (hk:f.B k):k<w.heap.size:=hk.elim (h.vt.lt k) (h.dt.lt k)
theorem ew.ty (h:ew w f) {k:Nat} (hk:f.B k):∃ cs fr,w.heap[k]? =some (.cells cs 5 fr):=hk.elim (h.vt k) (h.dt k)
end
structure DkH (w:World) (d:Nat) (fs:List Fl) (Ap:Option Addr) (cp:Nat) (ca:Int) (fu:Nat) (off:Bool):Prop where
 blk:Blk w d 72 #[.slice Ap fs.length cp,.int .i64 ca,.int .i64 (fu:Nat),.bool off]
 row:w.ownsRow 0 81 3 (.slice Ap fs.length cp) fs.length (fs.flatMap flV)
 ok:∀ f∈fs,ew w f
 ap:fs.Pairwise Sep
def iC (d:Nat) (Ap:Option Addr) (fs:List Fl) (k:Nat):Prop:=k=d∨Ap.map (·.block)=some k∨∃ f∈fs,f.B k
section
variable {V:Nat→Prop} {w w':World} {d:Nat} {fs fs':List Fl} {Ap Ap':Option Addr} {cp cp':Nat} {ca ca':Int} {fu fu':Nat} {off off':Bool}
theorem DkH.chg (h:DkH w d fs Ap cp ca fu off) (c:Chg V w w') (hV:∀ k,iC d Ap fs k→¬ V k):DkH w' d fs Ap cp ca fu off:=
 ⟨h.blk.chg c (hV _ (.inl rfl)),ic h.row c fun q hq=>hV q (.inr (.inl hq)),fun f hf=>(h.ok f hf).chg c fun k hk=>hV k (.inr (.inr ⟨f,hf,hk⟩)),h.ap⟩
theorem DkH.from_ (h:DkH w d fs Ap cp ca fu off) (hF:ai w w'):DkH w' d fs Ap cp ca fu off:=h.chg (V:=fun _=>False) hF.toChg fun _ _ h=>h
theorem DkH.lt (h:DkH w d fs Ap cp ca fu off) {k:Nat} (hk:iC d Ap fs k):k<w.heap.size:=by
 rcases hk with rfl | hk | ⟨f,hf,hk⟩
 ·exact h.blk.lt
 ·exact (er h.row k hk).2
 ·exact (h.ok f hf).lt hk
theorem DkH.bd (h:DkH w d fs Ap cp ca fu off) {f:Fl} (hf:f∈fs) {k:Nat} (hk:f.B k):k≠d:=fun e=>by
 obtain ⟨cs,fr,h1⟩:=(h.ok f hf).ty hk;have h2:=h.blk;unfold Blk at h2;rw [e,h2] at h1;simp only [Option.some.injEq,Obj.cells.injEq] at h1;exact absurd h1.2.1 (by decide)
theorem DkH.bp (h:DkH w d fs Ap cp ca fu off) {f:Fl} (hf:f∈fs) {k:Nat} (hk:f.B k):Ap.map (·.block)≠some k:=fun e=>by
 obtain ⟨cs,fr,h1⟩:=(h.ok f hf).ty hk;rcases h.row.2 with ⟨k1,_⟩ | ⟨g1,cap1,cur1,k1,_,k2,_⟩
 ·simp only [Value.slice.injEq] at k1;rw [k1.1] at e;cases e
 ·simp only [Value.slice.injEq] at k1;rw [k1.1] at e;cases e;rw [k2] at h1;simp only [Option.some.injEq,Obj.cells.injEq] at h1;exact absurd h1.2.1 (by decide)
theorem cF {base e sz n c:Nat} {A:Option Addr} {xs:List Value} {g:Nat} {t:TypeId} {cs:Array Value} (h:w.ownsRow base e sz (.slice A n c) n xs) (hb:Blk w g t cs) (hne:t≠e):∀ q,A.map (·.block)=some q→q≠g:=fun q hq e2=>by
 rcases h.2 with ⟨k1,_⟩ | ⟨g1,cap1,cur1,k1,_,k2,_⟩
 ·simp only [Value.slice.injEq] at k1;rw [k1.1] at hq;cases hq
 ·simp only [Value.slice.injEq] at k1;rw [k1.1] at hq;cases hq;have e3:g1=g:=e2;unfold Blk at hb;rw [e3,hb] at k2;simp only [Option.some.injEq,Obj.cells.injEq] at k2;exact hne k2.2.1
theorem DkH.setD (h:DkH w d fs Ap cp ca fu off) (c:Chg (fun k=>k=d) w w') (hb:Blk w' d 72 #[.slice Ap fs.length cp,.int .i64 ca',.int .i64 (fu':Nat),.bool off']):DkH w' d fs Ap cp ca' fu' off':=
 ⟨hb,ic h.row c fun q hq=>cF h.row h.blk (by decide) q hq,fun f hf=>(h.ok f hf).chg c fun k hk=>h.bd hf hk,h.ap⟩
theorem DkH.setR (h:DkH w d fs Ap cp ca fu off) (c:Chg (fun k=>k=d∨Ap.map (·.block)=some k) w w') (hb:Blk w' d 72 #[.slice Ap' fs'.length cp',.int .i64 ca',.int .i64 (fu':Nat),.bool off'])
 (hr:w'.ownsRow 0 81 3 (.slice Ap' fs'.length cp') fs'.length (fs'.flatMap flV)) (hf:∀ f∈fs',f∈fs∨(∃ g∈fs,f.vA=g.vA∧f.vc=g.vc∧f.dA=g.dA∧f.dc=g.dc∧f.vs=g.vs∧f.ds=g.ds∧f.own=g.own)∨(f.vA=none∧f.vc=0∧f.dA=none∧f.dc=0∧f.vs=[]∧f.ds=[]∧f.own=true)) (hp:fs'.Pairwise Sep):DkH w' d fs' Ap' cp' ca' fu' off':=by
 refine ⟨hb,hr,fun f hm=>?_,hp⟩;have key:∀ g∈fs,ew w' g:=fun g hg=>(h.ok g hg).chg c fun k hk e=>e.elim (h.bd hg hk) (h.bp hg hk)
 rcases hf f hm with e | ⟨g,hg,e1,e2,e3,e4,e5,e6,e7⟩ | ⟨e1,e2,e3,e4,e5,e6,e7⟩
 ·exact key f e
 ·have k:=key g hg;refine ⟨?_,?_,by rw [e1];exact k.vt,by rw [e3];exact k.dt,?_,?_⟩
  ·rw [e1,e2,e5];exact k.v
  ·rw [e3,e4,e6];exact k.d
  ·rw [e1,e2,e3,e5,e6,e7];exact k.o
  ·rw [e1,e2,e5,e7];exact k.n
 ·refine ⟨?_,?_,by rw [e1];exact TyB.none_ _,by rw [e3];exact TyB.none_ _,fun _=>?_,fun ho=>?_⟩
  ·rw [e1,e2,e5];exact RB.nil_ _
  ·rw [e3,e4,e6];exact RB.nil_ _
  ·rw [e1,e2,e5];exact ⟨World.ownsRow_nil _ _ _ _,.inl lk.none_⟩
  ·rw [e7] at ho;cases ho
end
end Go.Proofs.YtdimnaiiaekngaaDoor
namespace Go.Proofs.YtdimnaiiaekngaaDoor
open Go.Proofs.Tryd (prog)
open Go.RowKit Go.ChangeShapes Go.WideShapes Go.ChangeAt
section
variable {P:Program} {ρ:Operand→Value} {x y:Operand} {t yt:TypeId} {s s':ByteArray} {w:World}
theorem n5 (hx:ρ x=.string s) (hy:ρ y=.string s'):RO P ρ (.binOp .geq t x y yt) w (.bool !(Op.bytesLess s.toList s'.toList)) w:=
 gU hx hy (by unfold eqGuard;rfl) (by simp [binOp,Op.stringOp])
end
def qz (a b:ByteArray):Int:=Lib.compareBytes a.toList b.toList
theorem qx:∀ {a b:List UInt8},Lib.compareBytes a b<0↔a<b
 |[],[]=>by simp [Lib.compareBytes]
 |[],_::_=>by simp [Lib.compareBytes]
 |_::_,[]=>by simp [Lib.compareBytes]
 |a::r,b::s=>by
  unfold Lib.compareBytes;rw [List.cons_lt_cons_iff];by_cases h:a<b
  ·rw [if_pos h];simp [h]
  ·rw [if_neg h];by_cases k:b<a
   ·rw [if_pos k];have:¬ a=b:=fun e=>by subst e;exact absurd k (by simp)
    simp [h,this]
   ·rw [if_neg k,qx];have:a=b:=UInt8.le_antisymm (UInt8.not_lt.1 k) (UInt8.not_lt.1 h);simp [this]
theorem qy:∀ {a b:List UInt8},Lib.compareBytes a b=0↔a=b
 |[],[]=>by simp [Lib.compareBytes]
 |[],_::_=>by simp [Lib.compareBytes]
 |_::_,[]=>by simp [Lib.compareBytes]
 |a::r,b::s=>by
  unfold Lib.compareBytes;by_cases h:a<b
  ·rw [if_pos h];have:¬ a=b:=fun e=>by subst e;exact absurd h (by simp)
   simp [this]
  ·rw [if_neg h];by_cases k:b<a
   ·rw [if_pos k];have:¬ a=b:=fun e=>by subst e;exact absurd k (by simp)
    simp [this]
   ·rw [if_neg k,qy];have:a=b:=UInt8.le_antisymm (UInt8.not_lt.1 k) (UInt8.not_lt.1 h);simp [this]
theorem oy {a b:ByteArray}:qz a b<0↔sLt a b:=qx
theorem jt {a b:ByteArray}:qz a b=0↔a=b:=qy.trans ⟨eB,fun h=>by rw [h]⟩
end Go.Proofs.YtdimnaiiaekngaaDoor
namespace Go.Proofs
open Go.Shelf
def Tryd.lays213_ren:Go.Shelf.Ren:=⟨fun | 213=>62 | 265=>66 | n=>n,fun | 9=>9 | 3=>3 | n=>n,fun | n=>n⟩
def Tryd.lays106_ren:Go.Shelf.Ren:=⟨fun | 106=>58 | 213=>62 | 265=>66 | n=>n,fun | 9=>9 | 3=>3 | n=>n,fun | n=>n⟩
theorem Tryd.lays106:Go.Proofs.Lays.n106 prog Tryd.lays106_ren:={
 mixed:=by kernel_rfl
 f106:=Tryd.func58.trans (congrArg some (by kernel_rfl))
 f213:=Tryd.func62.trans (congrArg some (by kernel_rfl))
 f265:=Tryd.func66.trans (congrArg some (by kernel_rfl))
 t3:=Tryd.underlying3
 a3:=Tryd.isAgg3
 z3:=Tryd.sizeOf3
 v3:=Tryd.zeroValue3
 t9:=Tryd.underlying9
 a9:=Tryd.isAgg9
 z9:=Tryd.sizeOf9
 v9:=Tryd.zeroValue9 }
open Go.RowKit in
theorem Tryd.strings_Compare (a b:ByteArray) (w:World) :
 Calls prog 58 #[.string a,.string b] w fun e w'=>e=.returned (.int .i64 (Lib.compareBytes a.data.toList b.data.toList))∧w'=w:=Any.strings_Compare Tryd.lays106 a b w
def Tryd.lays315_ren:Go.Shelf.Ren:=⟨fun | 315=>61 | n=>n,fun | 9=>9 | 40=>95 | 4=>4 | 3=>3 | 0=>0 | 21=>21 | n=>n,fun | n=>n⟩
def Tryd.laysGw15_ren:Go.Shelf.Ren:=⟨fun | 15=>55 | 20=>61 | n=>n,fun | 9=>9 | 23=>95 | 3=>3 | 4=>4 | 0=>0 | 21=>21 | n=>n,fun | n=>n⟩
def Tryd.laysGw17_ren:Go.Shelf.Ren:=⟨fun | 17=>42 | 15=>55 | 20=>61 | n=>n,fun | 9=>9 | 23=>95 | 4=>4 | 3=>3 | 0=>0 | 21=>21 | n=>n,fun | n=>n⟩
theorem Tryd.laysGw17:Go.Proofs.LaysGw.n17 prog Tryd.laysGw17_ren:={
 mixed:=by kernel_rfl
 f15:=Tryd.func55.trans (congrArg some (by kernel_rfl))
 f17:=Tryd.func42.trans (congrArg some (by kernel_rfl))
 f20:=Tryd.func61.trans (congrArg some (by kernel_rfl))
 t0:=Tryd.underlying0
 a0:=Tryd.isAgg0
 z0:=Tryd.sizeOf0
 v0:=Tryd.zeroValue0
 i0:=by kernel_rfl
 t3:=Tryd.underlying3
 a3:=Tryd.isAgg3
 z3:=Tryd.sizeOf3
 v3:=Tryd.zeroValue3
 i3:=by kernel_rfl
 t4:=Tryd.underlying4
 a4:=Tryd.isAgg4
 z4:=Tryd.sizeOf4
 v4:=Tryd.zeroValue4
 i4:=by kernel_rfl
 t9:=Tryd.underlying9
 a9:=Tryd.isAgg9
 z9:=Tryd.sizeOf9
 v9:=Tryd.zeroValue9
 i9:=by kernel_rfl
 t21:=Tryd.underlying21
 a21:=Tryd.isAgg21
 z21:=Tryd.sizeOf21
 v21:=Tryd.zeroValue21
 i21:=by kernel_rfl
 t23:=Tryd.underlying95
 a23:=Tryd.isAgg95
 z23:=Tryd.sizeOf95
 v23:=Tryd.zeroValue95
 i23:=by kernel_rfl }
open Go.RowKit Go.Lib in
theorem Tryd.strings_ContainsFunc_runes (g:Nat) (lb:Array Value) (eg:∀ args w,(callFunc g args).run prog w=.ok (.enter g args) w) (p:Nat→Bool) (s:ByteArray) (w:World) (hp:PredAtRunes prog g lb p w) :
 Calls prog 42 #[.string s,.func (.func g) #[] lb] w fun e w'=>e=.returned (.bool (decide (0≤Lib.idxFunc p true s)))∧Below w.heap.size w w':=Any.strings_ContainsFunc_runes Tryd.laysGw17 g lb eg p s w hp
def Tryd.lays109_ren:Go.Shelf.Ren:=⟨fun | 109=>32 | n=>n,fun | 31=>49 | 9=>9 | 3=>3 | 0=>0 | 4=>4 | n=>n,fun | n=>n⟩
def Tryd.lays110_ren:Go.Shelf.Ren:=⟨fun | 110=>20 | 109=>32 | n=>n,fun | 31=>49 | 9=>9 | 4=>4 | 3=>3 | 0=>0 | n=>n,fun | n=>n⟩
def Tryd.lays115_ren:Go.Shelf.Ren:=⟨fun | 115=>38 | n=>n,fun | 37=>73 | 4=>4 | 9=>9 | 5=>5 | n=>n,fun | n=>n⟩
def Tryd.laysSlK4_ren:Go.Shelf.Ren:=⟨fun | 4=>31 | n=>n,fun | 22=>73 | 4=>4 | 5=>5 | n=>n,fun | n=>n⟩
def Tryd.laysnb115_ren:Go.Shelf.Ren:=⟨fun | 115=>38 | n=>n,fun | 37=>73 | 4=>4 | 9=>9 | 5=>5 | n=>n,fun | n=>n⟩
end Go.Proofs
namespace Go.Proofs.YtdimnaiiaekngaaDoor
open Go.Proofs.Tryd (prog)
open Go.RowKit
open Go.ChangeShapes Go.WideShapes Go.ChangeAt
open Go.Lib
theorem pj:prog.underlying 73=some (.slice 5):=by kernel_rfl
theorem lg:dO prog 73=some (5,1,1,(.int .u8 0)):=by kernel_rfl
theorem lh:(cH prog 49).isSome=true:=by kernel_rfl
theorem iS:cH prog 49=some (9,1):=by kernel_rfl
theorem a7:fj prog 9=some false:=by kernel_rfl
theorem po:aI prog 42=true:=by kernel_rfl
def lW (l:List Nat):ByteArray:=⟨(l.map UInt8.ofNat).toArray⟩
theorem kI {l:List Nat} (h:∀ b∈l,b<256):dG (lW l)=l:=by
 unfold lW dG;simp only [List.map_map]
 conv=>rhs;rw [←List.map_id l]
 refine List.map_congr_left fun x hx=>?_
 simp only [Function.comp,id];have:=h x hx;simp only [UInt8.toNat_ofNat'];omega
theorem pC {l m:List Nat} (hl:∀ b∈l,b<256) (hm:∀ b∈m,b<256):((lW l).toList==(lW m).toList)=decide (l=m):=by
 rw [Bool.eq_iff_iff,r_,decide_eq_true_eq];exact ⟨fun h=>by rw [←kI hl,h,kI hm],fun h=>by rw [h]⟩
theorem lx {ρ:Operand→Value} {w:World} {x:Operand} {A:Option Addr} {n c:Nat} {l:List Nat} (h:RB w A c l) (hn:n=l.length) (hx:ρ x=.slice A n c):RO prog ρ (.convert 73 9 x) w (.string (lW l)) w:=fun _ _ _ _ _=>by
 subst hn
 have key:(convert 73 9 (.slice A l.length c)).run prog w=.ok (.string (lW l)) w:=by
  cases A with
  |none=>
   have h0:l=[]:=by
    cases l with
    |nil=>rfl
    |cons x t=>
     obtain ⟨b,o,hA,_⟩:=h.at_ (Nat.zero_lt_succ _);cases hA
   subst h0;rw [run_convert_bytes_string w 73 9 5 none _ c (by kernel_rfl) (by kernel_rfl) (by kernel_rfl)];rfl
  |some a=>
   have hm:(l.map UInt8.ofNat).length=l.length:=by simp
   have:=run_convert_bytes_back (P:=prog) w 73 9 5 a c (l.map UInt8.ofNat) (by kernel_rfl) (by kernel_rfl) (by kernel_rfl) (fun j hj=>by
    have hj':j<l.length:=by simpa using hj
    obtain ⟨b,o,hA,hc⟩:=h.at_ (by omega);simp only [Option.some.injEq] at hA;subst hA;rw [Go.WideShapes.add_plain];have hb:=h.bt _ (List.getElem_mem hj');rw [hc j (.int .u8 (l[j]:Nat)) (by simp [aT,hj'])];simp only [List.getElem_map,UInt8.toNat_ofNat']
    congr 2
    omega)
   rw [hm] at this;exact this
 simp [execOp,hx,key]
theorem qq {a b:Int} (hb:0<b):(a.tmod b<0→a.tdiv b-1=a/b∧a.tmod b+b=a%b)∧(0≤a.tmod b→a.tdiv b=a/b∧a.tmod b=a%b):=by
 have h1:=Int.tmod_eq_emod (a:=a) (b:=b);have h2:=Int.tdiv_eq_ediv (a:=a) (b:=b);have h3:0≤a%b:=Int.emod_nonneg a (by omega);have h4:a%b<b:=Int.emod_lt_of_pos a hb;have h5:b.sign=1:=Int.sign_eq_one_of_pos hb;have h6:(b.natAbs:Int)=b:=by omega
 by_cases hc:0≤a∨b∣a
 ·rw [if_pos hc] at h1 h2;constructor <;> intro h <;> constructor <;> omega
 ·rw [if_neg hc] at h1 h2;constructor <;> intro h <;> constructor <;> omega
theorem sD {a b:Int} (hb:0<b) (ha:-9223372036854775808≤a∧a≤9223372036854775807):-9223372036854775808≤a/b∧a/b≤9223372036854775807∧0≤a%b∧a%b<b∧-9223372036854775808≤a.tdiv b∧a.tdiv b≤9223372036854775807:=by
 have h3:0≤a%b:=Int.emod_nonneg a (by omega);have h4:a%b<b:=Int.emod_lt_of_pos a hb;have h7:=Int.emod_add_mul_ediv a b;have k1:=Int.natAbs_ediv_le_natAbs a b;have k2:=Int.natAbs_tdiv_le_natAbs a b
 have hneg:a<0→a/b<0:=fun h=>by
  rcases Int.lt_or_le (a/b) 0 with k | k
  ·exact k
  ·have:=Int.mul_nonneg (Int.le_of_lt hb) k;omega
 have hq:=@qq a b hb;rcases Int.lt_or_le a 0 with k | k
 ·have k3:=hneg k;rcases Int.lt_or_le (a.tmod b) 0 with k4 | k4
  ·have:=hq.1 k4;omega
  ·have:=hq.2 k4;omega
 ·omega
theorem kU (a b:Int) (w:World) (hb0:0<b) (hb1:b≤1000000000) (ha:-9223372036854775808≤a∧a≤9223372036854775807) :
 Rt prog 49 [.int .i64 a,.int .i64 b] w (fun v w'=>v=.tuple #[.int .i64 (a/b),.int .i64 (a%b)]∧ai w w'):=by
 have hab:=sD hb0 ha;have hfl:=@qq a b hb0
 generalize hQ:a.tdiv b=q at*
 generalize hR:a.tmod b=r at*
 generalize hX:a/b=x at*
 generalize hY:a%b=y at*
 refine enter (n:=21) Tryd.func49 rfl rfl rfl (ag (ab (asi rfl (asi rfl (ah (ae (ag ?_)))))));apply cE 8 [(6,eqp _),(7,eqp _),(8,eqp _),(9,eqp _),(10,eqp _),(11,eqp _),(4,eqp _),(5,eqp _)] (by repeat first | exact cV | refine cU ?_ | refine cx ?_) (by kernel_rfl) (by kernel_rfl) ⟨aj _,aj _,aj _,aj _,aj _,aj _,aj _,aj _,trivial⟩
 case hop=>
  constructor
  ·rintro-w2 D2;exact an (aB (v:=.int _ _) rfl) rfl
  constructor
  ·rintro-w3 D3;exact an (aB (v:=.int _ _) rfl) rfl
  constructor
  ·rintro-w4 D4;rintro _ rfl _ rfl;exact an (cw (pS rfl rfl (by omega)) (by rw [hQ,IntWalk.i64_in _ (by omega)])) rfl
  constructor
  ·rintro-w5 D5;exact an (aB (v:=.int _ _) rfl) rfl
  constructor
  ·rintro-w6 D6;exact an (aB (v:=.int _ _) rfl) rfl
  constructor
  ·rintro-w7 D7;rintro _ rfl _ rfl;exact an (cw (nk rfl rfl (by omega)) (by rw [hR])) rfl
  constructor
  ·rintro-w8 D8;rintro _ rfl;exact an (bI (v:=.int _ _) rfl) rfl
  constructor
  ·rintro-w9 D9;rintro _ rfl;exact an (bI (v:=.int _ _) rfl) rfl
  exact trivial
 case hend=>
  intro w10 D10;rintro _ rfl _ rfl _ rfl _ rfl _ rfl _ rfl _ rfl _ rfl;show St ..;refine ah (ae (ag (ag (ab (mvi rfl (aa (cv rfl rfl) (ah (ae (tc rfl (fun Q11=>?_) (fun Q11=>?_))))))))))
  ·refine ag (ab (mvi rfl (aa (l8 rfl rfl (by omega)) (mvi rfl (mvi rfl (aa (ib rfl rfl (by omega)) (asi rfl (asi rfl (ah (ae (aw (aD ?_))))))))))));refine eW (v:=.int _ _) (v':=.int _ _) rfl rfl rfl ?_;have h7:=hfl.1 (by omega);exact ⟨by rw [h7.1,h7.2],(ai.rfl_.next D10)⟩
  refine aC (ae (ag (ab (mvi rfl (mvi rfl (asi rfl (asi rfl (ah (ae (aw (eW (v:=.int _ _) (v':=.int _ _) rfl rfl rfl ?_)))))))))));have h7:=hfl.2 (by omega);exact ⟨by rw [h7.1,h7.2],(ai.rfl_.next D10)⟩
theorem o5 (A B:Option Addr) (ca cb n m:Nat) (l k:List Nat) (w:World) (hr:RB w A ca l) (hr2:RB w B cb k) (hn:n=l.length) (hm:m=k.length) :
 Rt prog 38 [.slice A n ca,.slice B m cb] w (fun v w'=>v=.bool (decide (l=k))∧w=w'):=by
 refine enter (n:=10) Tryd.func38 rfl rfl rfl (ag (ab (asb rfl (ah (ae (ag (ab (mvs rfl (aa (lx hr hn rfl) (mvs rfl (aa (lx hr2 hm rfl) (aa (cw (gD rfl rfl) (congrArg Value.bool (pC hr.bt hr2.bt))) ?_))))))))))));refine asb rfl (ah (ae (aw (bb (v:=.bool _) rfl rfl (⟨rfl,rfl⟩)))))
theorem bo (A:Option Addr) (c n:Nat) (l:List Nat) (w:World) (hr:RB w A c l) (hn:n=l.length) (hl:n≤100000000000) :
 Rt prog 31 [.slice A n c] w (fun v w'=>(∃ A' c',v=.slice A' n c'∧w'.ownsRow w.heap.size 5 1 (.slice A' n c') n (aT l))∧ai w w'):=by
 refine enter (n:=8) Tryd.func31 rfl rfl rfl (ag (ab (ass rfl (ah (ae (ag (ag (ab (mvs rfl (aa (np pj rfl rfl) (ah (ae (aJ rfl (fun Q1=>?_) (fun Q1=>?_))))))))))))))
 ·(try first | (replace Q1 := ef Q1; trace "@MK N bo:c4+ 1.1") | (replace Q1 := eh Q1; trace "@MK N bo:c4+ 1.2"))
  (try first | (replace Q1 := fz Q1; trace "@MK N bo:c4+ 2.1") | (replace Q1 := fA Q1; trace "@MK N bo:c4+ 2.2") | (replace Q1 := gi Q1; trace "@MK N bo:c4+ 2.3") | (replace Q1 := gj Q1; trace "@MK N bo:c4+ 2.4") | (replace Q1 := dT_ Q1; trace "@MK N bo:c4+ 2.5") | (replace Q1 := dF_ Q1; trace "@MK N bo:c4+ 2.6"))
  obtain rfl:A=none:=Option.isNone_iff_eq_none.1 Q1;have hl0:l.length=0:=Nat.eq_zero_of_not_pos fun h=>by obtain ⟨b,o,e,_⟩:=hr.at_ h;cases e
  obtain rfl:l=[]:=List.eq_nil_of_length_eq_zero hl0;subst hn;refine ag (ab (ass rfl (ah (ae (aw (aD (bb (v:=.slice _ _ _) rfl rfl (⟨⟨none,0,rfl,World.ownsRow_nil _ _ _ _⟩,ai.rfl_⟩))))))))
 (try first | (replace Q1 := ef Q1; trace "@MK N bo:c4- 1.1") | (replace Q1 := eh Q1; trace "@MK N bo:c4- 1.2"))
 (try first | (replace Q1 := fz Q1; trace "@MK N bo:c4- 2.1") | (replace Q1 := fA Q1; trace "@MK N bo:c4- 2.2") | (replace Q1 := gi Q1; trace "@MK N bo:c4- 2.3") | (replace Q1 := gj Q1; trace "@MK N bo:c4- 2.4") | (replace Q1 := dT_ Q1; trace "@MK N bo:c4- 2.5") | (replace Q1 := dF_ Q1; trace "@MK N bo:c4- 2.6"))
 have hA4:A=none→c=0:=fun h=>by rw [h] at Q1;cases Q1
 subst hn;refine aC (ae (ag (ab (qU lg _ (ai.rfl_.size) ?_))));intro b5 w2 E5 hb5 ho5;refine mvs rfl ?_;refine ft (a0:=w) (news:=aT l) lg rfl (by decide) rfl ho5 (ai.rfl_.next E5) rfl (by rw [aH];omega) (fun h=>(let ⟨b,o,hA,hc⟩:=hr.at_ h;⟨b,o,hA,ep (ai.rfl_.next E5) hc⟩)) hA4 (eS l) (by omega) (by omega) ?_;intro A7 c7 w3 ho7 B7 hg7;refine ass rfl (ah (ae (aw (bb (v:=.slice _ _ _) rfl rfl (⟨⟨A7,c7,by rw [Nat.zero_add],by simpa using ho7⟩,B7⟩)))))
theorem mI (a b:ByteArray) (w:World):Rt prog 58 [.string a,.string b] w fun v w'=>v=.int .i64 (qz a b)∧w=w':=
 Calls.mono (Tryd.strings_Compare a b w) fun e w' h=>⟨_,h.1,by unfold qz;rw [Lib.toList_data,Lib.toList_data],h.2.symm⟩
def okB (b:Nat):Bool:=(decide (b≥97)&&decide (b≤122))||(decide (b≥48)&&decide (b≤57))||decide (b=46)||decide (b=45)
def okN (s:ByteArray):Bool:=decide (1≤s.size)&&decide (s.size≤64)&&(dG s).all okB
theorem rq {s:ByteArray}:s.toList=(⟨#[]⟩:ByteArray).toList↔s.size=0:=by
 rw [←lV,Lib.toList_data (s:=⟨#[]⟩)];exact List.length_eq_zero_iff.symm
theorem rp {s:ByteArray}:s.toList=[]↔s.size=0:=by rw [←lV];exact List.length_eq_zero_iff.symm
theorem oc {b:Nat} (h:128≤b):okB b=false:=by unfold okB;simp;omega
theorem rM (s:ByteArray) (pos:Nat) (h:128≤(s.get! pos).toNat):128≤(Utf8.decode s pos).1:=by
 unfold Utf8.decode;simp only [Nat.add_zero];rw [if_neg (by omega)];split
 ·split
  ·assumption
  ·decide
 ·split
  ·split
   ·rename_i h1;simp at h1;omega
   ·decide
  ·split
   ·split
    ·rename_i h1;simp at h1;omega
    ·decide
   ·decide
theorem o4 (s:ByteArray) (pos:Nat) (h:(s.get! pos).toNat<128):Utf8.decode s pos=((s.get! pos).toNat,1):=by
 unfold Utf8.decode;simp only [Nat.add_zero];rw [if_pos (by omega)]
theorem qo (s:ByteArray) (pos:Nat) (h:pos<s.size):(dG s)[pos]? =some (s.get! pos).toNat:=by
 unfold dG;rw [List.getElem?_map];have h2:pos<s.data.toList.length:=h;rw [List.getElem?_eq_getElem h2];show some _=some _
 congr 2
 show s.data.toList[pos]=s.data[pos]!;rw [getElem!_pos s.data pos h];rfl
theorem kS (s:ByteArray):∀ f pos,s.size≤pos+f→(0≤Lib.idxFuncFrom (fun r=> !okB r) true s f pos↔((dG s).drop pos).all okB=false)
 |0,pos,h=>by
  have:(dG s).drop pos=[]:=List.drop_eq_nil_of_le (by rw [cS];omega);rw [this];unfold Lib.idxFuncFrom;simp
 |f+1,pos,h=>by
  unfold Lib.idxFuncFrom;by_cases hp:pos<s.size
  ·have hg:=qo s pos hp
   have hd:(dG s).drop pos=(s.get! pos).toNat::(dG s).drop (pos+1):=by
    have h3:pos<(dG s).length:=by rw [cS];exact hp
    rw [List.drop_eq_getElem_cons h3]
    congr 1
    rw [List.getElem?_eq_getElem h3] at hg;exact Option.some.inj hg
   rw [if_pos hp,hd,List.all_cons];rcases Nat.lt_or_ge (s.get! pos).toNat 128 with k | k
   ·rw [o4 s pos k];by_cases ko:okB (s.get! pos).toNat=true
    ·simp only [ko,Bool.not_true,Bool.false_eq_true,if_false,Bool.true_and];exact kS s f (pos+1) (by omega)
    ·rw [Bool.not_eq_true] at ko;simp only [ko,Bool.not_false,if_true,Bool.false_and];exact ⟨fun _=>trivial,fun _=>Int.natCast_nonneg _⟩
   ·rw [oc (rM s pos k),oc k];simp
  ·have:(dG s).drop pos=[]:=List.drop_eq_nil_of_le (by rw [cS];omega);rw [if_neg hp,this];simp
theorem ql (s:ByteArray):decide (0≤Lib.idxFunc (fun r=> !okB r) true s)= !(dG s).all okB:=by
 unfold Lib.idxFunc;have:=kS s s.size 0 (by omega);rw [List.drop_zero] at this;rw [Bool.eq_iff_iff,decide_eq_true_iff,this];simp
theorem oF (r:Nat) (w:World) :
 Rt prog 43 [.int .i32 (r:Nat)] w (fun v w'=>v=.bool (!okB r)∧w=w'):=by
 refine enter (n:=26) Tryd.func43 rfl rfl rfl (ag (ab (asb rfl (ah (ae (ag (ab (mvi rfl (aa (cw (gT rfl rfl) (show Value.bool (decide ((r:Int)≥97))=Value.bool (decide (r≥97)) from congrArg Value.bool (decide_eq_decide.2 (by omega)))) (mvb rfl (sO (t:=5) rfl (fun Q1=>?_) (fun Q1=>?_))))))))))))
 ·refine ak rfl (mvi rfl (ak rfl (aa (cw (jF rfl rfl) (show Value.bool (decide ((r:Int)≤122))=Value.bool (decide (r≤122)) from congrArg Value.bool (decide_eq_decide.2 (by omega)))) (aa (aG (v:=.bool _) rfl rfl) (mvb rfl (sO (t:=9) rfl (fun Q2=>?_) (fun Q2=>?_)))))))
  ·refine aq rfl rfl (aq rfl rfl (aq rfl rfl (nW rfl (nW rfl (aq rfl rfl (aa (aG (v:=.bool _) rfl rfl) (mvb rfl (aq rfl rfl ?_))))))));refine aq rfl rfl (aa (aG (v:=.bool _) rfl rfl) (mvb rfl (aq rfl rfl (aq rfl rfl (aa (aG (v:=.bool _) rfl rfl) (aa (bl rfl) (asb rfl (ah (ae (aw ?_))))))))));refine bb (v:=.bool _) rfl rfl (⟨?_,rfl⟩);unfold okB
   simp_all
  refine ak rfl (mvi rfl (ak rfl (aa (cw (gT rfl rfl) (show Value.bool (decide ((r:Int)≥48))=Value.bool (decide (r≥48)) from congrArg Value.bool (decide_eq_decide.2 (by omega)))) (ak rfl (mvb rfl (sO (t:=12) rfl (fun Q3=>?_) (fun Q3=>?_)))))))
  ·refine ak rfl (mvi rfl (ak rfl (aa (cw (jF rfl rfl) (show Value.bool (decide ((r:Int)≤57))=Value.bool (decide (r≤57)) from congrArg Value.bool (decide_eq_decide.2 (by omega)))) (ak rfl (aa (aG (v:=.bool _) rfl rfl) (aa (aF (v:=.bool _) rfl rfl) (mvb rfl (sO (t:=17) rfl (fun Q4=>?_) (fun Q4=>?_)))))))))
   ·refine aq rfl rfl (aq rfl rfl (aa (aG (v:=.bool _) rfl rfl) (mvb rfl (aq rfl rfl (aq rfl rfl (aa (aG (v:=.bool _) rfl rfl) (aa (bl rfl) (asb rfl ?_))))))));refine ah (ae (aw (bb (v:=.bool _) rfl rfl (⟨?_,rfl⟩))));unfold okB
    simp_all
   refine ak rfl (mvi rfl (ak rfl (aa (cw (br rfl rfl) (show Value.bool ((r:Int)==46)=Value.bool (decide (r=46)) from congrArg Value.bool (by rw [Bool.eq_iff_iff];simp;omega))) ?_)));refine aa (aF (v:=.bool _) rfl rfl) (mvb rfl (sO (t:=21) rfl (fun Q5=>?_) (fun Q5=>?_)))
   ·refine aq rfl rfl (aq rfl rfl (aa (aG (v:=.bool _) rfl rfl) (aa (bl rfl) (asb rfl (ah (ae (aw (bb (v:=.bool _) rfl rfl (⟨?_,rfl⟩)))))))));unfold okB
    simp_all
   refine ak rfl (mvi rfl (ak rfl (aa (cw (br rfl rfl) (show Value.bool ((r:Int)==45)=Value.bool (decide (r=45)) from congrArg Value.bool (by rw [Bool.eq_iff_iff];simp;omega))) ?_)));refine aa (aF (v:=.bool _) rfl rfl) (aa (bl rfl) (asb rfl (ah (ae (aw (bb (v:=.bool _) rfl rfl (⟨?_,rfl⟩)))))));unfold okB
   simp_all
  refine aq rfl rfl (aq rfl rfl (ak rfl (aa (aF (v:=.bool _) rfl rfl) (aa (aF (v:=.bool _) rfl rfl) (mvb rfl (ak rfl (mvi rfl (ak rfl ?_))))))));refine aa (cw (br rfl rfl) (show Value.bool ((r:Int)==46)=Value.bool (decide (r=46)) from congrArg Value.bool (by rw [Bool.eq_iff_iff];simp;omega))) ?_;refine aa (aF (v:=.bool _) rfl rfl) (mvb rfl (sO (t:=21) rfl (fun Q6=>?_) (fun Q6=>?_)))
  ·refine aq rfl rfl (aq rfl rfl (aa (aG (v:=.bool _) rfl rfl) (aa (bl rfl) (asb rfl (ah (ae (aw (bb (v:=.bool _) rfl rfl (⟨?_,rfl⟩)))))))));unfold okB
   simp_all
  refine ak rfl (mvi rfl (ak rfl (aa (cw (br rfl rfl) (show Value.bool ((r:Int)==45)=Value.bool (decide (r=45)) from congrArg Value.bool (by rw [Bool.eq_iff_iff];simp;omega))) ?_)));refine aa (aF (v:=.bool _) rfl rfl) (aa (bl rfl) (asb rfl (ah (ae (aw (bb (v:=.bool _) rfl rfl (⟨?_,rfl⟩)))))));unfold okB
  simp_all
 refine aq rfl rfl (aq rfl rfl (aa (aF (v:=.bool _) rfl rfl) (mvb rfl (ak rfl (mvi rfl (ak rfl (aa (cw (gT rfl rfl) (show Value.bool (decide ((r:Int)≥48))=Value.bool (decide (r≥48)) from congrArg Value.bool (decide_eq_decide.2 (by omega)))) (ak rfl ?_))))))));refine mvb rfl (sO (t:=12) rfl (fun Q7=>?_) (fun Q7=>?_))
 ·refine ak rfl (mvi rfl (ak rfl (aa (cw (jF rfl rfl) (show Value.bool (decide ((r:Int)≤57))=Value.bool (decide (r≤57)) from congrArg Value.bool (decide_eq_decide.2 (by omega)))) (ak rfl (aa (aG (v:=.bool _) rfl rfl) (aa (aF (v:=.bool _) rfl rfl) (mvb rfl (sO (t:=17) rfl (fun Q8=>?_) (fun Q8=>?_)))))))))
  ·refine aq rfl rfl (aq rfl rfl (aa (aG (v:=.bool _) rfl rfl) (mvb rfl (aq rfl rfl (aq rfl rfl (aa (aG (v:=.bool _) rfl rfl) (aa (bl rfl) (asb rfl ?_))))))));refine ah (ae (aw (bb (v:=.bool _) rfl rfl (⟨?_,rfl⟩))));unfold okB
   simp_all
  refine ak rfl (mvi rfl (ak rfl (aa (cw (br rfl rfl) (show Value.bool ((r:Int)==46)=Value.bool (decide (r=46)) from congrArg Value.bool (by rw [Bool.eq_iff_iff];simp;omega))) ?_)));refine aa (aF (v:=.bool _) rfl rfl) (mvb rfl (sO (t:=21) rfl (fun Q9=>?_) (fun Q9=>?_)))
  ·refine aq rfl rfl (aq rfl rfl (aa (aG (v:=.bool _) rfl rfl) (aa (bl rfl) (asb rfl (ah (ae (aw (bb (v:=.bool _) rfl rfl (⟨?_,rfl⟩)))))))));unfold okB
   simp_all
  refine ak rfl (mvi rfl (ak rfl (aa (cw (br rfl rfl) (show Value.bool ((r:Int)==45)=Value.bool (decide (r=45)) from congrArg Value.bool (by rw [Bool.eq_iff_iff];simp;omega))) ?_)));refine aa (aF (v:=.bool _) rfl rfl) (aa (bl rfl) (asb rfl (ah (ae (aw (bb (v:=.bool _) rfl rfl (⟨?_,rfl⟩)))))));unfold okB
  simp_all
 refine aq rfl rfl (aq rfl rfl (ak rfl (aa (aF (v:=.bool _) rfl rfl) (aa (aF (v:=.bool _) rfl rfl) (mvb rfl (ak rfl (mvi rfl (ak rfl ?_))))))));refine aa (cw (br rfl rfl) (show Value.bool ((r:Int)==46)=Value.bool (decide (r=46)) from congrArg Value.bool (by rw [Bool.eq_iff_iff];simp;omega))) ?_;refine aa (aF (v:=.bool _) rfl rfl) (mvb rfl (sO (t:=21) rfl (fun Q10=>?_) (fun Q10=>?_)))
 ·refine aq rfl rfl (aq rfl rfl (aa (aG (v:=.bool _) rfl rfl) (aa (bl rfl) (asb rfl (ah (ae (aw (bb (v:=.bool _) rfl rfl (⟨?_,rfl⟩)))))))));unfold okB
  simp_all
 refine ak rfl (mvi rfl (ak rfl (aa (cw (br rfl rfl) (show Value.bool ((r:Int)==45)=Value.bool (decide (r=45)) from congrArg Value.bool (by rw [Bool.eq_iff_iff];simp;omega))) ?_)));refine aa (aF (v:=.bool _) rfl rfl) (aa (bl rfl) (asb rfl (ah (ae (aw (bb (v:=.bool _) rfl rfl (⟨?_,rfl⟩)))))));unfold okB
 simp_all
theorem mG (s:ByteArray) (w:World):Rt prog 42 [.string s,.func (.func 43) #[] #[]] w fun v w'=>v=.bool (!(dG s).all okB)∧ai w w':=by
 refine Calls.mono (Tryd.strings_ContainsFunc_runes 43 #[] (fun args w=>ed (w:=w) (by kernel_rfl) args) (fun r=> !okB r) s w fun W x _ _=>?_) fun e w' h=>?_
 ·exact Calls.mono (oF x W) fun e w' h=>by
   obtain ⟨v,he,hv,hw⟩:=h;subst hw;exact ⟨by rw [he,hv],0,rfl⟩
 ·rw [ql] at h;exact ⟨_,h.1,rfl,h.2⟩
theorem eK (A:Option Addr) (c n:Nat) (nms:List ByteArray) (w:World) (hr:fU 1 (fun s=>[Value.string s]) w A nms) (hn:n=nms.length) (hl:n≤100000000) (hs:∀ s∈nms,s.size≤140737488351232) :
 Rt prog 30 [.slice A n c] w (fun v w'=>v=.bool (nms.all okN)∧ai w w'):=by
 refine enter (n:=25) Tryd.func30 rfl rfl rfl (ag (ab (asb rfl (ah (ae (ag (ag (ab (mvs rfl (aa (bC lh rfl) (mvi rfl (ah (ae (bu (dJ (G:=Nat) [2,4,5,9,10,11,12,13,14,15,16,17,18,19,20,21,22,23,24] (fun i=>[(8,.int .i64 (i:Nat))]) (fun i w'=>i≤n∧(nms.take i).all okN=true∧ai w w') (fun i=>n-i) (0) ⟨rfl,trivial⟩ ?_ ?_)))))))))))))))
 ·exact ⟨Nat.zero_le _,rfl,ai.rfl_⟩
 rintro i ρ1 w1 ⟨hi,hok,hB⟩;refine ag (ab (aa (cv rfl rfl) (ah (ae (ag (tc rfl (fun Q2=>?_) (fun Q2=>?_)))))))
 ·obtain ⟨ba,oa,rfl,hca⟩:=hr (by omega);have hil:i<nms.length:=by omega
  have hce:=hca i hil;have hsz:=hs _ (List.getElem_mem hil);refine aC (ae (ag (bu (ag (ab (aa (dv iS rfl rfl (by omega)) (aa (ao a7 rfl (by exact (by have h9:=hce 0 _ rfl;simpa using eA hB h9))) ?_)))))));refine asg rfl (ah (ae (ag (ab (mvg rfl (av po (mG nms[i] _) ?_))))));rintro v13 w3 ⟨rfl,E13⟩;refine asb rfl (ah (ae (ag (ab (mvb rfl (mvb rfl (sL (t:=15) rfl (fun Q4=>?_) (fun Q4=>?_))))))))
  ·refine aq rfl rfl (aq rfl rfl (aa (aG (v:=.bool _) rfl rfl) (mvb rfl (aq rfl rfl (aq rfl rfl (aq rfl rfl (aa (aG (v:=.bool _) rfl rfl) (ah (ae ?_)))))))));refine bR rfl (ag (ab (asb rfl (ah (ae (aw (aX (aD (aD (aX (aD (bb (v:=.bool _) rfl rfl ?_))))))))))));have hon:okN nms[i]=false:=by unfold okN;simp_all <;> omega
   refine ⟨congrArg Value.bool ?_,(hB.next E13)⟩;symm;rw [List.all_eq_false];exact ⟨_,List.getElem_mem hil,by rw [hon];decide⟩
  refine ak rfl (mvg rfl (ak rfl (aa (gD rfl rfl) (aa (aF (v:=.bool _) rfl rfl) (mvb rfl (sM (t:=19) rfl (fun Q5=>?_) (fun Q5=>?_)))))))
  ·refine aq rfl rfl (aq rfl rfl (aq rfl rfl (aa (aG (v:=.bool _) rfl rfl) (ah (ae (bR rfl (ag (ab (asb rfl (ah (ae (aw (aX (aD (aD (aX (aD ?_)))))))))))))))));refine bb (v:=.bool _) rfl rfl ?_;have hon:okN nms[i]=false:=by unfold okN;simp_all [rp] <;> omega
   refine ⟨congrArg Value.bool ?_,(hB.next E13)⟩;symm;rw [List.all_eq_false];exact ⟨_,List.getElem_mem hil,by rw [hon];decide⟩
  refine ak rfl (mvg rfl (ak rfl (aa (gC (by kernel_rfl) rfl) (ak rfl (aa (cm rfl rfl) (aa (aF (v:=.bool _) rfl rfl) (ah (ae (tc rfl (fun Q6=>?_) (fun Q6=>?_))))))))))
  ·refine ag (ab (asb rfl (ah (ae (aw (aX (aD (aD (aX (aD (bb (v:=.bool _) rfl rfl ?_)))))))))));have hon:okN nms[i]=false:=by unfold okN;simp_all [rp] <;> omega
   refine ⟨congrArg Value.bool ?_,(hB.next E13)⟩;symm;rw [List.all_eq_false];exact ⟨_,List.getElem_mem hil,by rw [hon];decide⟩
  refine aC (bA (ae (ab (aa (bz (b:=1) rfl rfl (by omega)) (mvi rfl (ah ?_))))));refine cd (i+1) ⟨(by first | rfl | (refine bP ?_;omega)),trivial⟩ (by (iterate 41 refine bm rfl ?_);exact bO) ⟨?_,?_⟩
  ·have hon:okN nms[i]=true:=by unfold okN;simp_all [rp];exact ⟨Nat.pos_of_ne_zero fun h9=>by simp_all,by omega⟩
   exact ⟨by omega,by rw [List.take_succ_eq_append_getElem hil,List.all_append,hok,List.all_cons,List.all_nil,hon];rfl,(hB.next E13)⟩
  ·show n-(i+1)<n-i;omega
 refine dd (bB (bB (cG (ae (ag (ab (asb rfl (ah (ae (aw (bb (v:=.bool _) rfl rfl ?_)))))))))));obtain rfl:i=n:=by omega
 rw [hn,List.take_length] at hok;exact ⟨by rw [hok],hB⟩
end Go.Proofs.YtdimnaiiaekngaaDoor
namespace Go.Proofs.YtdimnaiiaekngaaDoor
open Go.Proofs.Tryd (prog)
open Go.RowKit
open Go.ChangeShapes Go.WideShapes Go.ChangeAt
theorem el:bQ prog 81 0=some 0:=by kernel_rfl
theorem pe:aI prog 58=true:=by kernel_rfl
theorem jc:aI prog 57=true:=by kernel_rfl
theorem c_:(cH prog 70).isSome=true:=by kernel_rfl
theorem iz:(prog.underlying 3).isSome=true:=by kernel_rfl
theorem iQ:prog.underlying 65=some (.int .u64):=by kernel_rfl
theorem k_:(prog.underlying 65).isSome=true:=by kernel_rfl
theorem gx:prog.underlying 3=some (.int .i64):=by kernel_rfl
theorem aZ:cH prog 70=some (81,3):=by kernel_rfl
theorem fC:fj prog 81=some true:=by kernel_rfl
theorem dD:cr prog 81=some 3:=by kernel_rfl
theorem bc:bQ prog 72 0=some 0:=by kernel_rfl
theorem cj:fj prog 70=some false:=by kernel_rfl
theorem pf:aI prog 56=true:=by kernel_rfl
theorem dW:aI prog 30=true:=by kernel_rfl
theorem jd:bQ prog 72 1=some 1:=by kernel_rfl
theorem aL:fj prog 3=some false:=by kernel_rfl
theorem cZ:cr prog 3=some 1:=by kernel_rfl
theorem ff:bQ prog 72 2=some 2:=by kernel_rfl
theorem dE:bQ prog 72 3=some 3:=by kernel_rfl
theorem fD:fj prog 4=some false:=by kernel_rfl
theorem mW:cr prog 4=some 1:=by kernel_rfl
theorem gF {fs:List Fl} {i:Nat} (h:i<fs.length):fs.getD i Fz=fs[i]:=by rw [List.getD_eq_getElem?_getD,List.getElem?_eq_getElem h];rfl
def aN (fs:List Fl):List Fe:=fs.map Fl.abs
theorem aK (fs:List Fl):(aN fs).length=fs.length:=List.length_map _
theorem a_ {fs:List Fl} {i:Nat} (h:i<(aN fs).length):(aN fs)[i]=(fs[i]'(by rw [←aK];exact h)).abs:=List.getElem_map _
theorem KS.getD {fs:List Fl} (h:KS (aN fs)) {i j:Nat} (hij:i<j) (hj:j<fs.length):sLt (fs.getD i Fz).nm (fs.getD j Fz).nm:=by
 rw [gF (Nat.lt_trans hij hj),gF hj];have:=h.cmp hij (by rw [aK];exact hj)
 rwa [a_,a_] at this
def Fnd (fs:List Fl) (id:ByteArray) (i:Nat) (fd:Bool):Prop:=KAt (aN fs) id i∧(fd=true↔∃ h:i<fs.length,fs[i].nm=id)
theorem qp {fs:List Fl} {id:ByteArray} {i:Nat} {fd:Bool} (h1:i≤fs.length) (h2:∀ x,x<i→sLt (fs.getD x Fz).nm id) (h3:∀ x,i≤x→x<fs.length→¬ sLt (fs.getD x Fz).nm id) (h4:fd=true↔i<fs.length∧(fs.getD i Fz).nm=id):Fnd fs id i fd:=by
 refine ⟨⟨by rw [aK];exact h1,fun x hx hxi=>?_,fun x hx hxi=>?_⟩,h4.trans ⟨fun ⟨a,b⟩=>⟨a,by rw [gF a] at b;exact b⟩,fun ⟨a,b⟩=>⟨a,by rw [gF a];exact b⟩⟩⟩
 ·rw [a_];have:=h2 x hxi;rwa [gF (by rw [←aK];exact hx)] at this
 ·rw [a_];have:=h3 x hxi (by rw [←aK];exact hx);rwa [gF (by rw [←aK];exact hx)] at this
def bE (ok:Bool) (fu:Nat) (off:Bool):Int:=if ok then (if off||fu==1 then 7 else 0) else 1
def fuB (ok:Bool) (fu:Nat):Nat:=if ok then fu-1 else fu
def gV (ok:Bool) (fu:Nat) (off:Bool):Bool:=if ok then off||fu==1 else off
theorem iX {w:World} {base n c:Nat} {A:Option Addr} {fs:List Fl} (h:w.ownsRow base 81 3 (.slice A n c) n (fs.flatMap flV)):n=fs.length∧fU 3 flV w A fs:=⟨(fU.own eE (by decide) h).1.symm,(fU.own eE (by decide) h).2⟩
theorem mC (f:Fl) (id:ByteArray) (w:World) :
 Rt prog 57 [.agg (flV f).toArray,.string id] w (fun v w'=>v=.int .i64 (qz f.nm id)∧ai w w'):=by
 refine enter (n:=9) Tryd.func57 rfl rfl rfl (ag (ab (de (v:=.agg _) rfl ?_)));intro b2 w1 E2 hb2 hk2;refine asi rfl (ah (ae (ag (ab (aa (af el rfl) (aa (ao a7 rfl (by exact hk2.rd 0 rfl)) ?_))))));refine mvg rfl (av pe (mI f.nm id _) ?_);rintro v8 w2 ⟨rfl,rfl⟩;refine asi rfl (ah (ae (aw (bb (v:=.int _ _) rfl rfl (⟨rfl,(ai.rfl_.next E2)⟩)))))
theorem mD (A:Option Addr) (c n:Nat) (fs:List Fl) (w:World) (hr:fU 3 flV w A fs) (hn:n=fs.length) (hl:n≤100000000) (id:ByteArray) (hO:KS (aN fs)) :
 Rt prog 56 [.slice A n c,.string id,.func (.func 57) #[] #[]] w (fun v w'=>(∃ (i:Nat) (fd:Bool),v=.tuple #[.int .i64 (i:Nat),.bool fd]∧Fnd fs id i fd)∧ai w w'):=by
 refine enter (n:=49) Tryd.func56 rfl rfl rfl (ag (ab (asi rfl (asb rfl (ah (ae (ag (ab (mvs rfl (aa (bC c_ rfl) (asi rfl (ah (ae (ag (ab ?_)))))))))))))));refine mvi rfl (asi rfl (asi rfl (ah (ae (ag (bu (dJ (G:=Nat×Nat) [11,15,16,17,18,19,20,21,22,23,24,25,26,27,28,29,30,31,32,33,34] (fun (i,j)=>[(9,.int .i64 (i:Nat)),(10,.int .i64 (j:Nat))]) (fun (i,j) w'=>i≤j∧j≤n∧(∀ x,x<i→sLt (fs.getD x Fz).nm id)∧(∀ x,j≤x→x<n→¬ sLt (fs.getD x Fz).nm id)∧ai w w') (fun (i,j)=>j-i) ((0,n)) ⟨rfl,rfl,trivial⟩ ?_ ?_)))))))
 ·exact ⟨Nat.zero_le _,Nat.le_refl _,fun x h=>absurd h (by omega),fun x h1 h2=>absurd h1 (by omega),ai.rfl_⟩
 rintro ⟨i,j⟩ ρ1 w1 ⟨hij,hjn,hlo,hhi,hB⟩;refine ag (ag (ab (mvi rfl (mvi rfl (aa (cv rfl rfl) (ah (ae (tc rfl (fun Q2=>?_) (fun Q2=>?_)))))))))
 ·obtain ⟨bd,od,rfl,hcd⟩:=hr (by omega);refine aC (ae (bu (ag (ab (mvi rfl (mvi rfl (aa (bz rfl rfl (by omega)) ?_)))))));obtain ⟨h,hh⟩:∃ h,h=(i+j)/2 ^ 1:=⟨_,rfl⟩;refine aa (kM iz iQ rfl (by omega)) (aa (n3 (b:=1) rfl rfl (by decide)) (aa (fY k_ gx rfl (by omega)) (fX (t:=23) (v:=.int _ _) (v':=.int .i64 (h:Nat)) rfl (by rw [hh]) ?_)));refine asi rfl (ah (ae (ag (ab (aa (aB (v:=.func _ _ _) rfl) (mvs rfl (mvi rfl (aa (aV aZ rfl rfl (by omega)) ?_))))))));refine aa (aQ (cs:=[_,_,_]) fC dD rfl (by have h2:=hcd h (by omega);rw [←gF (show h<fs.length by omega)] at h2;exact ep hB h2)) ?_;refine mvg rfl (lZ (caps:=[]) rfl jc (mC (fs.getD h Fz) id _) ?_);rintro v3 w3 ⟨rfl,E30⟩;refine aa (cv rfl rfl) (ah (ae (tc rfl (fun Q4=>?_) (fun Q4=>?_))))
  ·have hlt:sLt (fs.getD h Fz).nm id:=oy.1 (by omega);refine ab (mvi rfl (aa (bz (b:=1) rfl rfl (by omega)) (asi rfl (ah (bA ?_)))));refine cd ((h+1,j)) ⟨(by first | rfl | (refine bP ?_;omega)),(by first | rfl | (refine bP ?_;omega)),trivial⟩ (by (iterate 45 refine bm rfl ?_);exact bO) ⟨?_,?_⟩
   ·exact ⟨by omega,hjn,fun x hx=>by
     rcases Nat.eq_or_lt_of_le (Nat.le_of_lt_succ hx) with e | e
     ·subst e;exact hlt
     ·exact gA (hO.getD e (by omega)) hlt,hhi,(hB.next E30)⟩
   ·show j-(h+1)<j-i;omega
  have hnl:¬ sLt (fs.getD h Fz).nm id:=fun h9=>by have:=oy.2 h9;omega
  refine ab (mvi rfl (asi rfl (ah (bA ?_))));refine cd ((i,h)) ⟨(by first | rfl | (refine bP ?_;omega)),(by first | rfl | (refine bP ?_;omega)),trivial⟩ (by (iterate 44 refine bm rfl ?_);exact bO) ⟨?_,?_⟩
  ·exact ⟨by omega,by omega,hlo,fun x h1 h2=>by
    rcases Nat.eq_or_lt_of_le h1 with e | e
    ·subst e;exact hnl
    ·exact fun h9=>hnl (gA (hO.getD e (by omega)) h9),(hB.next E30)⟩
  ·show h-i<j-i;omega
 refine dd (bB (bB (cG (ae (ag (ab (mvi rfl (mvi rfl (mvi rfl (aa (cv rfl rfl) (mvb rfl (sO (t:=39) rfl (fun Q5=>?_) (fun Q5=>?_)))))))))))))
 ·obtain ⟨bd,od,rfl,hcd⟩:=hr (by omega);refine ak rfl (aa (aB (v:=.func _ _ _) rfl) (ak rfl (mvs rfl (ak rfl (mvi rfl (ak rfl (aa (aV aZ rfl rfl (by omega)) (ak rfl ?_))))))));refine aa (aQ (cs:=[_,_,_]) fC dD rfl (by have h2:=hcd i (by omega);rw [←gF (show i<fs.length by omega)] at h2;exact ep hB h2)) ?_;refine ak rfl (mvg rfl (ak rfl (lZ (caps:=[]) rfl jc (mC (fs.getD i Fz) id _) ?_)));rintro v6 w6 ⟨rfl,E46⟩;refine ak rfl (aa (br rfl rfl) (aa (aG (v:=.bool _) rfl rfl) (asi rfl (asb rfl (ah (ae (aw (eW (v:=.int _ _) (v':=.bool _) rfl rfl rfl ?_))))))));obtain rfl:i=j:=by omega
  subst hn;refine ⟨⟨i,_,rfl,qp hjn hlo hhi ?_⟩,(hB.next E46)⟩
  first
   |(rw [beq_iff_eq,jt];exact ⟨fun h9=>⟨by omega,h9⟩,fun h9=>h9.2⟩)
   |(rw [decide_eq_true_iff,jt];exact ⟨fun h9=>⟨by omega,h9⟩,fun h9=>h9.2⟩)
   |exact ⟨fun h9=>(by cases h9),fun h9=>absurd h9.1 (by omega)⟩
 refine aq rfl rfl (aq rfl rfl (aq rfl rfl (aq rfl rfl (aq rfl rfl (aq rfl rfl (aq rfl rfl (aq rfl rfl (aa (aF (v:=.bool _) rfl rfl) ?_))))))));refine asi rfl (asb rfl (ah (ae (aw (eW (v:=.int _ _) (v':=.bool _) rfl rfl rfl ?_)))));obtain rfl:i=j:=by omega
 subst hn;refine ⟨⟨i,_,rfl,qp hjn hlo hhi ?_⟩,hB⟩
 first
  |(rw [beq_iff_eq,jt];exact ⟨fun h9=>⟨by omega,h9⟩,fun h9=>h9.2⟩)
  |(rw [decide_eq_true_iff,jt];exact ⟨fun h9=>⟨by omega,h9⟩,fun h9=>h9.2⟩)
  |exact ⟨fun h9=>(by cases h9),fun h9=>absurd h9.1 (by omega)⟩
theorem il (d:Nat) (fs:List Fl) (Ap:Option Addr) (cp:Nat) (ca:Int) (fu:Nat) (off:Bool) (w:World) (h:DkH w d fs Ap cp ca fu off) (hs:KS (aN fs)) (hl:fs.length≤16) (_:fu≤9223372036854775807) (id:ByteArray) :
 Rt prog 45 [.pointer (some ⟨d,0,none⟩),.string id] w (fun v w'=>(∃ (i:Nat) (fd:Bool),v=.tuple #[.int .i64 (i:Nat),.bool fd]∧Fnd fs id i fd)∧ai w w'):=by
 refine enter (n:=14) Tryd.func45 rfl rfl rfl (ag (ab (asi rfl (asb rfl (ah (ae (ag (ab (mvp rfl (aa (az rfl) (aa (af bc rfl) (aa (ao cj rfl (by exact (h.blk.from_ ai.rfl_).rd 0 rfl)) ?_))))))))))));refine mvg rfl (av pf (mD Ap cp fs.length fs _ ((iX h.row).2.from_ ai.rfl_) rfl (by omega) id hs) ?_);rintro v11 w1 ⟨⟨i,fd,rfl,hf⟩,E11⟩;refine aa (ax rfl rfl) (aa (ax rfl rfl) (asi rfl (asb rfl (ah (ae (aw (eW (v:=.int _ _) (v':=.bool _) rfl rfl rfl (⟨⟨i,fd,rfl,hf⟩,(ai.rfl_.next E11)⟩))))))))
theorem mK (d:Nat) (fs:List Fl) (Ap:Option Addr) (cp:Nat) (ca:Int) (fu:Nat) (off:Bool) (w:World) (h:DkH w d fs Ap cp ca fu off) (_:KS (aN fs)) (_:fs.length≤16) (hfu0:fu≤9223372036854775807) (A:Option Addr) (c n:Nat) (nms:List ByteArray) (hr:fU 1 (fun s=>[Value.string s]) w A nms) (hn:n=nms.length) (hnl:n≤1000) (hsz:∀ s∈nms,s.size≤140737488351232) :
 Rt prog 44 [.pointer (some ⟨d,0,none⟩),.slice A n c] w (fun v w'=>v=.int .i64 (bE (nms.all okN) fu off)∧(∃ ca',DkH w' d fs Ap cp ca' (fuB (nms.all okN) fu) (gV (nms.all okN) fu off))∧Chg (fun k=>k=d) w w'):=by
 refine enter (n:=45) Tryd.func44 rfl rfl rfl (ag (ab (asi rfl (ah (ae (ag (ag (ab (mvs rfl (av dW (eK A c n nms _ (hr.from_ ai.rfl_) hn (by omega) hsz) ?_))))))))));rintro v6 w1 ⟨rfl,E6⟩;refine aa (bl rfl) (ah (ae (ta rfl (fun Q2=>?_) (fun Q2=>?_))))
 ·have hok:nms.all okN=false:=by first | assumption | simp_all
  refine ag (ab (asi rfl (ah (ae (aw (aD (bb (v:=.int _ _) rfl rfl ?_)))))));refine ⟨by unfold bE;rw [hok];rfl,⟨ca,by unfold fuB gV;rw [hok];exact h.from_ (ai.rfl_.next E6)⟩,((ai.rfl_.next E6)).toChg⟩
 have hok:nms.all okN=true:=by first | assumption | simp_all
 refine aC (ae (ag (ab (mvp rfl (aa (az rfl) (aa (af jd rfl) (aa (ao aL rfl (by exact (h.blk.from_ (ai.rfl_.next E6)).rd 1 rfl)) ?_)))))));refine aa (pW rfl rfl) (aa (az rfl) (aa (af jd rfl) ?_));have hF3:=(ai.rfl_.next E6);have hb3:=h.blk.from_ hF3;refine fg (v:=.int _ _) cZ rfl rfl rfl (hb3) (by show 1<4;decide) ?_;intro w3 O3 P3;have hC3:Chg (fun k=>k=d) w _:=hF3.toChg.next (O3.toChg rfl);refine ah (ae (jZ (G:=Int×Nat×Bool) [15,16,17,18,19,20,21,22,23,24,25,26,27,28,29,30,31,32,33,34,35,36,37,38,39,40] (fun _=>[]) (fun (ca2,fu2,off2) w'=>fu2=fu-1∧off2=(off||fu==1)∧Blk w' d 72 #[.slice Ap fs.length cp,.int .i64 ca2,.int .i64 (fu2:Nat),.bool off2]∧Chg (fun k=>k=d) w w') ?_ ?_))
 ·refine ag (ab (mvp rfl (aa (az rfl) (aa (af ff rfl) (aa (ao aL rfl (by exact P3.rd 2 rfl)) ?_)))));refine aa (cm rfl rfl) (ah (ae (tc rfl (fun Q4=>?_) (fun Q4=>?_))))
  ·refine ag (ab (mvp rfl (aa (az rfl) (aa (af ff rfl) (aa (ao aL rfl (by exact P3.rd 2 rfl)) ?_)))));refine aa (hZ (b:=1) rfl rfl (by omega)) (aa (az rfl) (aa (af ff rfl) (fg (v:=.int _ _) cZ rfl rfl rfl (P3) (by show 2<4;decide) ?_)));intro w5 O5 P5;have hC5:Chg (fun k=>k=d) w _:=hC3.next (O5.toChg rfl);refine ah (ae (ab (mvp rfl (mvp rfl (aa (az rfl) (aa (af dE rfl) (aa (ao fD rfl (by exact P5.rd 3 rfl)) ?_)))))));refine mvb rfl (aS (t:=32) rfl (fun Q6=>?_) (fun Q6=>?_))
   ·refine aq rfl rfl (aq rfl rfl (aq rfl rfl (aq rfl rfl (aq rfl rfl (aa (aG (v:=.bool _) rfl rfl) (aa (az rfl) (aa (af dE rfl) (fg (v:=.bool _) mW rfl rfl rfl (P5) (by show 3<4;decide) ?_))))))));intro w7 O6 P6;have hC6:Chg (fun k=>k=d) w _:=hC5.next (O6.toChg rfl);refine ah ?_;refine cd ((IntKind.i64.wrap (ca+1),fu-1,off||fu==1)) trivial (by (iterate 27 refine bm rfl ?_);exact bO) ?_;refine ⟨rfl,rfl,?_,hC6⟩;have e6:=P6
    first
     |(rw [show (off||fu==1)=true by simp_all];exact e6)
     |(rw [show (off||fu==1)=(((fu-1:Nat):Int)==0) by simp_all;rw [Bool.eq_iff_iff];simp;omega];exact e6)
   refine ak rfl (mvp rfl (ak rfl (aa (az rfl) (ak rfl (aa (af ff rfl) (ak rfl (aa (ao aL rfl (by exact P5.rd 2 rfl)) ?_)))))));refine ak rfl (aa (br rfl rfl) (aa (aF (v:=.bool _) rfl rfl) (aa (az rfl) (aa (af dE rfl) (fg (v:=.bool _) mW rfl rfl rfl (P5) (by show 3<4;decide) ?_)))));intro w8 O6 P6;have hC6:Chg (fun k=>k=d) w _:=hC5.next (O6.toChg rfl);refine ah ?_;refine cd ((IntKind.i64.wrap (ca+1),fu-1,off||fu==1)) trivial (by (iterate 27 refine bm rfl ?_);exact bO) ?_;refine ⟨rfl,rfl,?_,hC6⟩;have e6:=P6
   first
    |(rw [show (off||fu==1)=true by simp_all];exact e6)
    |(rw [show (off||fu==1)=(((fu-1:Nat):Int)==0) by simp_all;rw [Bool.eq_iff_iff];simp;omega];exact e6)
  refine aC ?_;refine cd ((IntKind.i64.wrap (ca+1),fu-1,off||fu==1)) trivial (by (iterate 5 refine bm rfl ?_);exact bO) ?_;obtain rfl:fu=0:=by omega
  refine ⟨rfl,rfl,?_,hC3⟩;rw [show (off||(0:Nat)==1)=off by simp];exact P3
 rintro ⟨ca2,fu2,off2⟩ ρ9 w9 ⟨hfu,hoff,hb7,hC7⟩;refine ag (ag (ab (mvp rfl (aa (az rfl) (aa (af dE rfl) (aa (ao fD rfl (by exact hb7.rd 3 rfl)) ?_))))));refine ah (ae (aJ rfl (fun Q10=>?_) (fun Q10=>?_)))
 ·refine ag (ab (asi rfl (ah (ae (aw (aD (bb (v:=.int _ _) rfl rfl ?_)))))));refine ⟨by unfold bE;rw [hok,←hoff];simp_all,⟨ca2,by unfold fuB gV;rw [hok];exact h.setD hC7 (by rw [←hfu,←hoff];exact hb7)⟩,hC7⟩
 refine aC (ae (ag (ab (asi rfl (ah (ae (aw (bb (v:=.int _ _) rfl rfl ?_))))))));refine ⟨by unfold bE;rw [hok,←hoff];simp_all,⟨ca2,by unfold fuB gV;rw [hok];exact h.setD hC7 (by rw [←hfu,←hoff];exact hb7)⟩,hC7⟩
theorem kq:aI prog 44=true:=by kernel_rfl
theorem eV:aI prog 45=true:=by kernel_rfl
theorem cB:dO prog 49=some (9,1,16,(.string ⟨#[]⟩)):=by kernel_rfl
theorem bS:bQ prog 81 1=some 1:=by kernel_rfl
theorem bT:bQ prog 79 0=some 0:=by kernel_rfl
theorem bg:fj prog 73=some false:=by kernel_rfl
theorem dX:aI prog 31=true:=by kernel_rfl
theorem g_:iT prog 81=some (.agg #[.string ⟨#[]⟩,.slice none 0 0,.slice none 0 0]):=by kernel_rfl
theorem iY {w:World} {g:Nat} {s:ByteArray} (h:Blk w g 9 #[.string s]):fU 1 (fun s=>[Value.string s]) w (some ⟨g,0,none⟩) [s]:=fun _=>⟨g,0,rfl,fun i hi=>by
 obtain rfl:i=0:=by have:i<1:=hi;omega
 exact h.range 0 _ (fun j v hj=>by
  match j,hj with
  |0,hj=>exact hj
  |j+1,hj=>simp at hj)⟩
theorem sV {w:World} {g:Nat} {s t:ByteArray} (h:Blk w g 9 #[.string s,.string t]):fU 1 (fun s=>[Value.string s]) w (some ⟨g,0,none⟩) [s,t]:=fun _=>⟨g,0,rfl,fun i hi=>by
 match i,hi with
 |0,_=>exact h.range 0 _ (fun j v hj=>by
   match j,hj with
   |0,hj=>exact hj
   |j+1,hj=>simp at hj)
 |1,_=>exact h.range 1 _ (fun j v hj=>by
   match j,hj with
   |0,hj=>exact hj
   |j+1,hj=>simp at hj)
 |i+2,hi=>have:i+2<2:=hi;omega⟩
theorem iE {w:World} {base e s n c:Nat} {A:Option Addr} {xs:List Value} (h:w.ownsRow base e s (.slice A n c) n xs) (hn:0<n):∃ g,A=some ⟨g,0,none⟩:=by
 obtain ⟨g,cur,e,_⟩:=lB h hn;exact ⟨g,e⟩
theorem Fnd.has {fs:List Fl} {id:ByteArray} {i:Nat} {fd:Bool} (h:Fnd fs id i fd) (hs:KS (aN fs)):eR (aN fs) id=fd:=by
 rw [Bool.eq_iff_iff,h.1.has hs,h.2];exact ⟨fun ⟨a,b⟩=>⟨by rw [←aK];exact a,by rw [a_] at b;exact b⟩,fun ⟨a,b⟩=>⟨by rw [aK];exact a,by rw [a_];exact b⟩⟩
def fb (D:List Fe) (off:Bool) (nm:ByteArray):Int:=if okN nm then (if off then 7 else if eR D nm then 0 else 3) else 1
def fa (D:List Fe) (off:Bool) (nm:ByteArray):List Nat:=if fb D off nm=0 then dI D nm else []
def DOk (D:List Fe):Prop:=KS D∧D.length≤16∧∀ e∈D,e.2.1.length≤1048576∧e.2.2.length≤1048576
def cR (w:World) (U:Nat→Prop) (d:Nat) (D:List Fe) (fu:Nat) (off:Bool):Prop:=∃ fs Ap cp ca,DkH w d fs Ap cp ca fu off∧aN fs=D∧DOk D∧fu≤9223372036854775807∧∀ k,iC d Ap fs k→U k
section
variable {U V:Nat→Prop} {w w':World} {d:Nat} {D:List Fe} {fu:Nat} {off:Bool}
theorem cR.chg (h:cR w U d D fu off) (c:Chg V w w') (hV:∀ k,U k→¬ V k):cR w' U d D fu off:=by
 obtain ⟨fs,Ap,cp,ca,h1,h2,h3,h4,h5⟩:=h;exact ⟨fs,Ap,cp,ca,h1.chg c fun k hk=>hV k (h5 k hk),h2,h3,h4,h5⟩
theorem cR.from_ (h:cR w U d D fu off) (hF:ai w w'):cR w' U d D fu off:=h.chg (V:=fun _=>False) hF.toChg fun _ _ h=>h
theorem cR.wide (h:cR w U d D fu off) (hU:∀ k,U k→k<w.heap.size→V k):cR w V d D fu off:=by
 obtain ⟨fs,Ap,cp,ca,h1,h2,h3,h4,h5⟩:=h;exact ⟨fs,Ap,cp,ca,h1,h2,h3,h4,fun k hk=>hU k (h5 k hk) (h1.lt hk)⟩
theorem cR.ok (h:cR w U d D fu off):DOk D:=by
 obtain ⟨fs,Ap,cp,ca,h1,h2,h3,h4,h5⟩:=h;exact h3
end
theorem ob (d:Nat) (fs:List Fl) (Ap:Option Addr) (cp:Nat) (ca:Int) (fu:Nat) (off:Bool) (w:World) (h:DkH w d fs Ap cp ca fu off) (hs:KS (aN fs)) (hl:fs.length≤16) (hfu0:fu≤9223372036854775807) (A:Option Addr) (c n:Nat) (nms:List ByteArray) (hr:fU 1 (fun s=>[Value.string s]) w A nms) (hn:n=nms.length) (hnl:n≤1000) (hsz:∀ s∈nms,s.size≤140737488351232) (h0:0<nms.length) (hA:∀ q,A.map (·.block)=some q→q≠d) :
 Rt prog 33 [.pointer (some ⟨d,0,none⟩),.slice A n c] w (fun v w'=>((bE (nms.all okN) fu off≠0∧v=.tuple #[.pointer none,.int .i64 (bE (nms.all okN) fu off)])∨(bE (nms.all okN) fu off=0∧∃ i fd,Fnd fs (nms.getD 0 ⟨#[]⟩) i fd∧((fd=false∧v=.tuple #[.pointer none,.int .i64 3])∨(fd=true∧∃ g,Ap=some ⟨g,0,none⟩∧v=.tuple #[.pointer (some ⟨g,i*3,none⟩),.int .i64 0]))))∧(∃ ca',DkH w' d fs Ap cp ca' (fuB (nms.all okN) fu) (gV (nms.all okN) fu off))∧Chg (fun k=>k=d) w w'):=by
 obtain ⟨ba,oa,rfl,hca⟩:=hr h0;have hc0:=hca 0 h0;have hlt:ba<w.heap.size:=World.block_lt_of_cell? _ _ (hc0 0 _ rfl);have hne:ba≠d:=hA ba rfl;have hg0:nms.getD 0 ⟨#[]⟩=nms[0]:=by rw [List.getD_eq_getElem?_getD,List.getElem?_eq_getElem h0];rfl
 obtain ⟨e0,he0⟩:∃ e0,e0=bE (nms.all okN) fu off:=⟨_,rfl⟩;refine enter (n:=31) Tryd.func33 rfl rfl rfl (ag (ab (asp rfl (asi rfl (ah (ae (ag (ag (ab (mvp rfl (mvs rfl (av kq (mK d fs Ap cp ca fu off _ (h.from_ ai.rfl_) hs hl hfu0 (some ⟨ba,oa,none⟩) c n nms (hr.from_ ai.rfl_) hn hnl hsz) ?_))))))))))));rintro v11 w1 ⟨rfl,⟨ca2,h2⟩,hC11⟩;have hc2:=kN hc0 hC11 (by first | exact hlt | exact Nat.lt_of_lt_of_le hlt (ai.size (by assumption))) hne;rw [←he0];refine asi rfl (ah (ae (ag (ab (mvi rfl (aa (cc rfl rfl) (ah (ae (s_ rfl (fun Q2=>?_) (fun Q2=>?_))))))))))
 ·refine ag (ab (mvi rfl (asp rfl (asi rfl (ah (ae (aw (aD (eW (v:=.pointer _) (v':=.int _ _) rfl rfl rfl (⟨.inl ⟨by assumption,rfl⟩,⟨ca2,h2.from_ ai.rfl_⟩,hC11.next (ai.rfl_).toChg⟩))))))))))
 refine aC (ae (ag (ab (mvp rfl (mvs rfl (aa (dv (i:=0) iS rfl rfl (by omega)) (aa (ao a7 rfl (by have h9:=hc2 0 _ rfl;simpa using eA ai.rfl_ h9)) ?_)))))));refine av eV (il d fs Ap cp ca2 _ _ _ (h2.from_ ai.rfl_) hs hl (by unfold fuB;split <;> omega) nms[0]) ?_;rintro v20 w3 ⟨⟨i,fd,rfl,hf⟩,E20⟩;refine mvt rfl (aa (ax rfl rfl) (aa (ax rfl rfl) (asi rfl (asb rfl (ah (ae (ag (ag (ab (mvb rfl (aa (bl rfl) (ah (ae ?_)))))))))))));refine ta rfl (fun Q4=>?_) (fun Q4=>?_)
 ·have hfd:fd=false:=by first | assumption | simp_all
  refine ag (ab (asp rfl (asi rfl (ah (ae (aw (aD (eW (v:=.pointer _) (v':=.int _ _) rfl rfl rfl ?_))))))));rw [hg0];exact ⟨.inr ⟨by omega,i,fd,hf,.inl ⟨hfd,rfl⟩⟩,⟨ca2,h2.from_ (ai.rfl_.next E20)⟩,hC11.next ((ai.rfl_.next E20)).toChg⟩
 have hfd:fd=true:=by first | assumption | simp_all
 obtain ⟨hi,hi2⟩:=hf.2.1 hfd;obtain ⟨g,rfl⟩:=iE h.row (by omega);refine aC (ae (ag (ab (mvp rfl (aa (az rfl) (aa (af bc rfl) (aa (ao cj rfl (by exact (h2.blk.from_ (ai.rfl_.next E20)).rd 0 rfl)) ?_)))))));refine mvi rfl (aa (aV aZ rfl rfl (by omega)) (asp rfl (asi rfl (ah (ae (aw (eW (v:=.pointer _) (v':=.int _ _) rfl rfl rfl ?_)))))));rw [hg0];exact ⟨.inr ⟨by omega,i,fd,hf,.inr ⟨hfd,g,rfl,by rw [Nat.zero_add]⟩⟩,⟨ca2,h2.from_ (ai.rfl_.next E20)⟩,hC11.next ((ai.rfl_.next E20)).toChg⟩
theorem n_ (U:Nat→Prop) (d:Nat) (D:List Fe) (fu:Nat) (off:Bool) (w:World) (hd:cR w U d D fu off) (nm:ByteArray) (hn:nm.size≤140737488351232) :
 Rt prog 35 [.pointer (some ⟨d,0,none⟩),.string nm] w (fun v w'=>(∃ A' c',v=.tuple #[.slice A' (fa D off nm).length c',.int .i64 (fb D off nm)]∧w'.ownsRow w.heap.size 5 1 (.slice A' (fa D off nm).length c') (fa D off nm).length (aT (fa D off nm)))∧ai w w'):=by
 have hd0:=hd;obtain ⟨fs,Ap,cp,ca,h,hD,hok,hfu0,hU⟩:=hd;subst hD;obtain ⟨hs,hl,hz⟩:=hok;rw [aK] at hl;refine enter (n:=34) Tryd.func35 rfl rfl rfl (ag (ab (ass rfl (asi rfl (ah (ae (ag (ag (ab (mvg rfl (jq (v:=.string _) cB rfl rfl rfl ?_)))))))))));intro b9 w1 E9 hb9 hk9;refine av dW (eK (some ⟨b9,0,none⟩) 1 1 [nm] _ (iY (hk9.from_ ai.rfl_)) rfl (by omega) (fun s hs=>by rw [List.mem_singleton.1 hs];exact hn)) ?_;rintro v10 w2 ⟨rfl,E10⟩;refine aa (bl rfl) (ah (ae (ta rfl (fun Q3=>?_) (fun Q3=>?_))))
 ·have hok:okN nm=false:=by simpa using Q3
  refine ag (ab (ass rfl (asi rfl (ah (ae (aw (aD (eW (v:=.slice _ _ _) (v':=.int _ _) rfl rfl rfl ?_))))))));have e1:fb (aN fs) off nm=1:=by unfold fb;rw [hok];rfl
  have e2:fa (aN fs) off nm=[]:=by unfold fa;rw [e1];rfl
  rw [e1,e2];exact ⟨⟨none,0,rfl,World.ownsRow_nil _ _ _ _⟩,((ai.rfl_.next E9).next E10)⟩
 have hok:okN nm=true:=by simpa using Q3
 refine aC (ae (ag (ag (ab (mvp rfl (aa (az rfl) (aa (af dE rfl) (aa (ao fD rfl (by exact (h.blk.from_ ((ai.rfl_.next E9).next E10)).rd 3 rfl)) ?_))))))));refine ah (ae (aJ rfl (fun Q4=>?_) (fun Q4=>?_)))
 ·refine ag (ab (ass rfl (asi rfl (ah (ae (aw (aD (eW (v:=.slice _ _ _) (v':=.int _ _) rfl rfl rfl ?_))))))));have e1:fb (aN fs) off nm=7:=by unfold fb;rw [hok];simp_all
  have e2:fa (aN fs) off nm=[]:=by unfold fa;rw [e1];rfl
  rw [e1,e2];exact ⟨⟨none,0,rfl,World.ownsRow_nil _ _ _ _⟩,((ai.rfl_.next E9).next E10)⟩
 refine aC (ae (ag (ab (mvp rfl (mvg rfl (av eV (il d fs Ap cp ca fu off _ (h.from_ ((ai.rfl_.next E9).next E10)) hs hl hfu0 nm) ?_))))));rintro v19 w5 ⟨⟨i,fd,rfl,hf⟩,E19⟩;refine mvt rfl (aa (ax rfl rfl) (aa (ax rfl rfl) (asi rfl (asb rfl (ah (ae (ag (ag (ab (mvb rfl (aa (bl rfl) (ah (ae ?_)))))))))))));refine ta rfl (fun Q6=>?_) (fun Q6=>?_)
 ·have hfd:fd=false:=by first | assumption | simp_all
  refine ag (ab (ass rfl (asi rfl (ah (ae (aw (aD (eW (v:=.slice _ _ _) (v':=.int _ _) rfl rfl rfl ?_))))))));have e1:fb (aN fs) off nm=3:=by unfold fb;rw [hok,hf.has hs,hfd];simp_all
  have e2:fa (aN fs) off nm=[]:=by unfold fa;rw [e1];rfl
  rw [e1,e2];exact ⟨⟨none,0,rfl,World.ownsRow_nil _ _ _ _⟩,(((ai.rfl_.next E9).next E10).next E19)⟩
 have hfd:fd=true:=by first | assumption | simp_all
 obtain ⟨hi,hi2⟩:=hf.2.1 hfd;have hzi:=hz _ (List.getElem_mem (l:=aN fs) (n:=i) (by rw [aK];exact hi));rw [a_] at hzi;have hz1:fs[i].vs.length≤1048576:=hzi.1;obtain ⟨bp,op,rfl,hcd⟩:=(iX h.row).2 (by omega);have hce:=hcd i hi;refine aC (ae (ag (ab (mvp rfl (aa (az rfl) (aa (af bc rfl) (aa (ao cj rfl (by exact (h.blk.from_ (((ai.rfl_.next E9).next E10).next E19)).rd 0 rfl)) ?_)))))));refine mvi rfl (aa (aV aZ rfl rfl (by omega)) (aa (af bS rfl) (aa (af bT rfl) (aa (ao bg rfl (by exact eA (((ai.rfl_.next E9).next E10).next E19) (by have h9:=hce 1 _ rfl;simpa using h9))) ?_))));have hz33:=((((ai.rfl_.next E9).next E10).next E19)).size;refine av dX (bo fs[i].vA fs[i].vc fs[i].vs.length fs[i].vs _ (((h.ok _ (List.getElem_mem hi)).v).from_ (((ai.rfl_.next E9).next E10).next E19)) rfl (by omega)) ?_;rintro v33 w7 ⟨⟨A33,c33,rfl,ho33⟩,E33⟩;refine ass rfl (asi rfl (ah (ae (aw (eW (v:=.slice _ _ _) (v':=.int _ _) rfl rfl rfl ?_)))));have e1:fb (aN fs) off nm=0:=by unfold fb;rw [hok,hf.has hs,hfd];simp_all
 have e2:fa (aN fs) off nm=fs[i].vs:=by unfold fa;rw [e1,if_pos rfl,gE hs (i:=i) (by rw [aK];exact hi) (by rw [a_];exact hi2),a_];rfl
 rw [e1,e2];exact ⟨⟨A33,c33,rfl,fG ho33 hz33⟩,((((ai.rfl_.next E9).next E10).next E19).next E33)⟩
theorem rz (U:Nat→Prop) (d:Nat) (D:List Fe) (fu:Nat) (off:Bool) (w:World) (hd:cR w U d D fu off) :
 Rt prog 19 [.pointer (some ⟨d,0,none⟩)] w (fun v w'=>(∃ A' c' n,v=.tuple #[.slice A' n c',.int .i64 (if off then 7 else 0)]∧n=(if off then [] else D).length∧w'.ownsRow w.heap.size 9 1 (.slice A' n c') n ((if off then [] else D).map fun e=>Value.string e.1))∧ai w w'):=by
 have hd0:=hd;obtain ⟨fs,Ap,cp,ca,h,hD,hok,hfu0,hU⟩:=hd;subst hD;obtain ⟨hs,hl,hz⟩:=hok;rw [aK] at hl;refine enter (n:=27) Tryd.func19 rfl rfl rfl (ag (ab (ass rfl (asi rfl (ah (ae (ag (ag (ab (mvp rfl (aa (az rfl) (aa (af dE rfl) (aa (ao fD rfl (by exact (h.blk.from_ ai.rfl_).rd 3 rfl)) ?_)))))))))))));refine ah (ae (aJ rfl (fun Q1=>?_) (fun Q1=>?_)))
 ·refine ag (ab (ass rfl (asi rfl (ah (ae (aw (aD (eW (v:=.slice _ _ _) (v':=.int _ _) rfl rfl rfl ?_))))))));have hof:off=true:=by first | assumption | simp_all
  rw [hof];exact ⟨⟨none,0,0,rfl,rfl,World.ownsRow_nil _ _ _ _⟩,ai.rfl_⟩
 refine aC (ae (ag (ab (ass rfl (ah (ae (ag (ag (ab (mvp rfl (aa (az rfl) (aa (af bc rfl) (aa (ao cj rfl (by exact (h.blk.from_ ai.rfl_).rd 0 rfl)) ?_)))))))))))));refine aa (bC c_ rfl) (mvi rfl (ah (ae (bu (dJ (G:=Nat×Option Addr×Nat) [6,17,18,19,20,21,22,23,24,25] (fun (i,A4,c4)=>[(4,.slice A4 i c4),(16,.int .i64 (i:Nat))]) (fun (i,A4,c4) w'=>i≤fs.length∧w'.ownsRow w.heap.size 9 1 (.slice A4 i c4) i (List.map (fun f=>Value.string f.nm) (fs.take i))∧ai w w') (fun (i,_,_)=>fs.length-i) ((0,none,0)) ⟨rfl,rfl,trivial⟩ ?_ ?_)))))
 ·exact ⟨Nat.zero_le _,World.ownsRow_nil _ _ _ _,ai.rfl_⟩
 rintro ⟨i,A4,c4⟩ ρ2 w2 ⟨hi,ho,hB⟩;refine ag (ab (aa (cv rfl rfl) (ah (ae (ag (tc rfl (fun Q3=>?_) (fun Q3=>?_)))))))
 ·obtain ⟨bp,op,rfl,hcd⟩:=(iX h.row).2 (by omega);have hil:i<fs.length:=by omega
  have hce:=hcd i hil;refine aC (ae (ag (bu (ag (ab (aa (aV aZ rfl rfl (by omega)) (aa (aQ (cs:=[_,_,_]) fC dD rfl (by exact ep hB hce)) ?_)))))));refine cM g_ ?_;intro b6 w4 E6 hb6 hk6;have hg6:w.heap.size≤b6:=by rw [hb6];exact (hB).size
  refine bh (vs:=[_,_,_]) dD rfl rfl (by simp [Value.oneCell']) (hk6) rfl ?_;intro w5 O6 P6;have ho6:=ho.kept_from (E6.only O6 (by rw [hb6];exact Nat.le_refl _));refine ah (ae (ab (mvs rfl (aa (af el rfl) (aa (ao a7 rfl (by exact (P6.from_ ai.rfl_).rd 0 rfl)) ?_)))));refine jq (v:=.string _) cB rfl rfl rfl ?_;intro b23 w6 E23 hb23 hk23;refine pE (a0:=w) cB rfl rfl ((ho6.kept_from (ai.rfl_.next E23))) (((hB.next E6).only O6 (hg6)).next E23) rfl hk23 rfl (by omega) (by omega) ?_;intro A24 c24 w7 ho24 B24 hg24;refine ass rfl (ah (bA (ae (ab (aa (bz (b:=1) rfl rfl (by omega)) (mvi rfl (ah ?_)))))));refine cd ((i+1,A24,c24)) ⟨(by first | rfl | (refine bP ?_;omega)),(by first | rfl | (refine bP ?_;omega)),trivial⟩ (by (iterate 24 refine bm rfl ?_);exact bO) ⟨?_,?_⟩
  ·exact ⟨by omega,by rw [List.take_succ_eq_append_getElem hil,List.map_append];exact ho24,B24⟩
  ·show fs.length-(i+1)<fs.length-i;omega
 refine dd (bB (bB (cG (ae (ag (ab (mvs rfl (ass rfl (asi rfl (ah (ae (aw (eW (v:=.slice _ _ _) (v':=.int _ _) rfl rfl rfl ?_)))))))))))));have hof:off=false:=by first | assumption | simp_all
 obtain rfl:i=fs.length:=by omega
 rw [List.take_length] at ho;rw [hof];exact ⟨⟨A4,c4,fs.length,rfl,(aK fs).symm,by have e:(aN fs).map (fun e=>Value.string e.1)=fs.map fun f=>Value.string f.nm:=List.map_map;rw [if_neg (by decide),e];exact ho⟩,hB⟩
end Go.Proofs.YtdimnaiiaekngaaDoor
namespace Go.Proofs.YtdimnaiiaekngaaDoor
open Go.Proofs.Tryd (prog)
open Go.RowKit Go.ChangeShapes Go.WideShapes Go.ChangeAt
section
variable {P:Program} {ρ:Operand→Value} {w:World}
theorem nr {s x:Operand} {t e size by_ m cap j c2 base:Nat} {A A2:Option Addr} {z:Value} {olds news:List Value} (hq:dO P t=some (e,size,by_,z)) (hzs:z.cells.size=size)
 (hs:ρ s=.slice A m cap) (hx:ρ x=.slice A2 j c2) (hol:olds.length=m*size) (hold:0<olds.length→∃ b o,A=some ⟨b,o,none⟩∧w.rangeAt b o olds) (hl:news.length=j*size) (hsrc:∃ b o,A2=some ⟨b,o,none⟩∧w.rangeAt b o news) (h1:∀ u∈news,u.oneCell'=true)
 (hg:cap<m+j) (h63:m+j≤maxLen) (hby:(m+j)*by_≤140737488355328) (hB:base≤w.heap.size) :
 ∃ c' w',RO P ρ (.call { callee:=.builtin .append,args:=#[s,x],argTypes:=#[t,t] }) w (.slice (some ⟨w.heap.size,0,none⟩) (m+j) c') w'∧ai w w'∧w'.ownsRow base e size (.slice (some ⟨w.heap.size,0,none⟩) (m+j) c') (m+j) (olds++news):=by
 obtain ⟨i,hu,hi,hsz,hb,hz⟩:=ga hq;subst hsz;subst hb;obtain ⟨b2,o2,rfl,hr2⟩:=hsrc
 have hld:(Builtin.firstCells i.size m (.slice A m cap)).run P w.drew=.ok olds.toArray w.drew:=by
  have:=gB (P:=P) (w:=w.drew) (n:=m*i.size) hol (fun h=>let ⟨b,o,h1,h2⟩:=hold h;⟨b,o,h1,fun j v hv=>h2 j v hv⟩);cases A <;> exact this
 have hnx:Builtin.nextslicecap (m+j) cap*i.bytes≤281474976710656:=growslice_fits hg hby;have hS:Src P i.size t (.slice (some ⟨b2,o2,none⟩) j c2) j news w:=Src.ofSlice w hu ⟨b2,o2,none⟩ j c2 news hl (fun k v hk=>by rw [Go.WideShapes.add_plain];exact hr2 k v hk) h1;have hrun:=fun ty=>run_append_grow_src (P:=P) w t t ty e i z hu hi hz A m cap olds hld (.slice (some ⟨b2,o2,none⟩) j c2) j news hS hg (by unfold maxLen at h63;omega) hnx
 have hcge:=grownCap_ge w (m+j) cap e;have hcle:=grownCap_le_maxLen w (m+j) cap e h63
 generalize grownCap w (m+j) cap e=c' at hrun hcge hcle
 have hlen:(olds++news).length=(m+j)*i.size:=by rw [List.length_append,hol,hl,Nat.add_mul]
 refine ⟨c',w.drew.alloc (.cells ((olds++news).toArray++Builtin.zeroCells z.cells (c'-(m+j))) e),fun dst ty pos after gg=>?_,ai.rfl_.d1.new _,⟨hlen,.inr ⟨w.heap.size,c',_,rfl,hB,Blk.new w.drew e _,hcge,hcle,?_,?_⟩⟩⟩
 ·unfold execOp;simp only [resolve,invoke,builtin,Sem.run_bind,Sem.run_pure,Result.andThen_ok,List.map_toArray,List.map_cons,List.map_nil,hs,hx,hrun]
 ·simp only [Array.size_append,size_zeroCells,hzs,List.size_toArray,hlen,←Nat.add_mul]
  congr 1
  omega
 ·rw [Array.toList_append];show (olds++news++_).take _=_;rw [List.take_append_of_le_length (by omega),List.take_of_length_le (by omega)]
theorem nt {s x:Operand} {t e size by_ m cap c2:Nat} {A A2:Option Addr} {z:Value} (hq:dO P t=some (e,size,by_,z)) (hs:ρ s=.slice A m cap) (hx:ρ x=.slice A2 0 c2) (hle:m≤cap) :
 RO P ρ (.call { callee:=.builtin .append,args:=#[s,x],argTypes:=#[t,t] }) w (.slice A m cap) w:=fun dst ty pos after gg=>by
 obtain ⟨i,hu,hi,hsz,hb,hz⟩:=ga hq
 have hS:Src P i.size t (.slice A2 0 c2) 0 [] w:=by
  cases A2 with
  |none=>exact Src.ofNil w hu c2
  |some a=>exact Src.ofSlice w hu a 0 c2 [] (by simp) (fun k v hk=>by simp at hk) (fun u hu=>by cases hu)
 have hrun:=run_append_nothing (P:=P) w t t ty e i hu hi A m cap hle _ hS;unfold execOp;simp only [resolve,invoke,builtin,Sem.run_bind,Sem.run_pure,Result.andThen_ok,List.map_toArray,List.map_cons,List.map_nil,hs,hx,hrun]
end
theorem o8 {ρ : Operand → Value} {s x : Operand} {w : World} {f : Fl} {A2 : Option Addr} {c2 : Nat} {bs : List Nat} (hF : ew w f) (hs : ρ s = .slice f.vA f.vs.length f.vc) (hx : ρ x = .slice A2 bs.length c2) (hb : RB w A2 c2 bs) (hl : f.vs.length + bs.length ≤ 1000000000) :
    ∃ (f' : Fl) (w2 : World), RO prog ρ (.call { callee := .builtin .append, args := #[s, x], argTypes := #[ 73, 73 ] }) w (.slice f'.vA f'.vs.length f'.vc) w2 ∧ f'.nm = f.nm ∧ f'.vs = f.vs ++ bs ∧ f'.ds = f.ds ∧ f'.dA = f.dA ∧ f'.dc = f.dc ∧
      Chg (fun k => f.own = true ∧ f.vA.map (·.block) = some k) w w2 ∧ ew w2 f' ∧ (∀ k, f'.B k → f.B k ∨ w.heap.size ≤ k) ∧ (f'.own = true → ∀ k, f'.vA.map (·.block) = some k → (f.own = true ∧ f.vA.map (·.block) = some k) ∨ w.heap.size ≤ k) := by
  have hq : dO prog 73 = some (5, 1, 1, (.int .u8 0)) := by kernel_rfl
  have hb9 : ∀ b ∈ f.vs ++ bs, b < 256 := fun b h => (List.mem_append.1 h).elim (hF.v.bt b) (hb.bt b)
  rcases Nat.eq_zero_or_pos bs.length with h0 | h0
  · have e0 : bs = [] := List.eq_nil_of_length_eq_zero h0
    subst e0
    exact ⟨f, w, nt hq hs hx hF.v.le, rfl, (List.append_nil _).symm, rfl, rfl, rfl, Chg.rfl_, hF, fun k hk => .inl hk, fun ho k hk => .inl ⟨ho, hk⟩⟩
  obtain ⟨b2, o2, hA2, hr2⟩ := hb.at_ h0
  rcases Nat.lt_or_ge f.vc (f.vs.length + bs.length) with hg | hg
  ·
    obtain ⟨c', w2, hR, hFr, ho⟩ := nr (base := 0) (olds := aT f.vs) (news := aT bs) hq rfl hs hx (by rw [aH, Nat.mul_one]) (fun h => hF.v.at_ (by rwa [aH] at h)) (by rw [aH, Nat.mul_one]) ⟨b2, o2, hA2, hr2⟩ (eS bs) hg (by unfold maxLen; omega) (by omega) (Nat.zero_le _)
    rw [← cJ] at ho
    have hlen : (f.vs ++ bs).length = f.vs.length + bs.length := List.length_append
    refine ⟨⟨f.nm, some ⟨w.heap.size, 0, none⟩, c', f.dA, f.dc, f.vs ++ bs, f.ds, true⟩, w2, ?_, rfl, rfl, rfl, rfl, rfl, hFr.toChg, ⟨(RB.own ho hb9).2, hF.d.from_ hFr, TyB.own ho, hF.dt.from_ hFr, fun _ => ⟨?_, .inl ?_⟩, fun h => by cases h⟩, fun k hk => ?_, fun _ k hk => ?_⟩
    · show RO _ _ _ _ (.slice _ (f.vs ++ bs).length _) _
      rw [hlen]; exact hR
    · show w2.ownsRow 0 _ 1 (.slice _ (f.vs ++ bs).length _) (f.vs ++ bs).length _
      rw [hlen]; exact ho
    · intro p hp q hq e
      have h1 : w.heap.size = p := by cases hp; rfl
      have := hF.dt.lt q hq
      omega
    · rcases hk with hk | hk
      · exact .inr (by have h1 : w.heap.size = k := by cases hk; rfl
                       omega)
      · exact .inl (.inr hk)
    · exact .inr (by have h1 : w.heap.size = k := by cases hk; rfl
                     omega)
  ·
    have hown : f.own = true := by
      rcases Bool.eq_false_or_eq_true f.own with h | h
      · exact h
      · have := (hF.n h).2; omega
    obtain ⟨ho, hd⟩ := hF.o hown
    rcases ho.2 with ⟨h1, h2⟩ | ⟨g, cap, cur, h1, _, h3, h4, h5, h6, h7⟩
    · simp only [Value.slice.injEq] at h1
      omega
    · simp only [Value.slice.injEq, true_and] at h1
      obtain ⟨hvA, hvc⟩ := h1
      have hcl : cur.toList.length = f.vc := by rw [Array.length_toList, h6, hvc, Nat.mul_one]
      obtain ⟨w2, hR, hO, hP⟩ := jH (g := g) (cur := cur.toList) (news := aT bs) (e := 5) (size := 1) (by kernel_rfl) (hvA ▸ hs) hx (by rw [aH, Nat.mul_one]) (fun _ => ⟨b2, o2, hA2, hr2⟩) (by simpa [Blk] using h3) (eS bs) hg (by rw [aH]; omega)
      have hlen : (f.vs ++ bs).length = f.vs.length + bs.length := List.length_append
      have ho2 : w2.ownsRow 0 5 1 (.slice (some ⟨g, 0, none⟩) (f.vs ++ bs).length f.vc) (f.vs ++ bs).length (aT (f.vs ++ bs)) := by
        rw [hlen]
        refine jN (Nat.zero_le _) hP hg (by rw [hvc]; exact h5) ?_ ?_
        · rw [bX _ _ _ (by rw [aH]; omega), hcl, Nat.mul_one]
        · rw [cJ, Nat.mul_one, Nat.mul_one]
          rw [Nat.mul_one] at h7
          unfold cn
          rw [h7, List.append_assoc, ← List.append_assoc, List.take_append_of_le_length (by rw [List.length_append, aH, aH]; omega), List.take_of_length_le (by rw [List.length_append, aH, aH]; omega)]
      have hC : Chg (fun k => f.own = true ∧ f.vA.map (·.block) = some k) w w2 := hO.toChg ⟨hown, by rw [hvA]; rfl⟩
      have hv2 := (RB.own ho2 hb9).2
      refine ⟨⟨f.nm, some ⟨g, 0, none⟩, f.vc, f.dA, f.dc, f.vs ++ bs, f.ds, true⟩, w2, ?_, rfl, rfl, rfl, rfl, rfl, hC, ⟨hv2, ?_, TyB.own ho2, ?_, fun _ => ⟨ho2, ?_⟩, fun h => by cases h⟩, fun k hk => .inl ?_, fun _ k hk => .inl ⟨hown, by rw [hvA]; exact hk⟩⟩
      · show RO _ _ _ _ (.slice _ (f.vs ++ bs).length _) _
        rw [hlen]; exact hR
      · show RB w2 f.dA f.dc f.ds
        rcases hd with hd | ⟨hd, r, hr⟩
        · exact hF.d.chg hC fun q hq hv => hd q hv.2 q hq rfl
        · rw [hd, hvA]
          rw [hr, List.append_assoc] at hv2
          exact hv2.pre.cap hF.d.le hF.d.mx
      · show TyB w2 f.dA
        rcases hd with hd | ⟨hd, r, hr⟩
        · exact hF.dt.chg hC fun q hq hv => hd q hv.2 q hq rfl
        · rw [hd, hvA]; exact TyB.own ho2
      · rcases hd with hd | ⟨hd, r, hr⟩
        · exact .inl (by rw [hvA] at hd; exact hd)
        · exact .inr ⟨by show f.dA = _; rw [hd, hvA], r ++ bs, by show f.vs ++ bs = _; rw [hr, List.append_assoc]⟩
      · rcases hk with hk | hk
        · exact .inl (by rw [hvA]; exact hk)
        · exact .inr hk
section
variable {w w':World} {d:Nat} {fs:List Fl} {Ap:Option Addr} {cp:Nat} {ca:Int} {fu:Nat} {off:Bool}
theorem DkH.put (h:DkH w d fs Ap cp ca fu off) {i:Nat} (hi:i<fs.length) {f':Fl} (c:Chg (fun k=>Ap.map (·.block)=some k∨(fs[i].own=true∧fs[i].vA.map (·.block)=some k)) w w')
 (hr:w'.ownsRow 0 81 3 (.slice Ap fs.length cp) fs.length ((fs.set i f').flatMap flV)) (hf:ew w' f') (hB:∀ k,f'.B k→fs[i].B k∨w.heap.size≤k) (hO:f'.own=true→∀ k,f'.vA.map (·.block)=some k→(fs[i].own=true∧fs[i].vA.map (·.block)=some k)∨w.heap.size≤k):DkH w' d (fs.set i f') Ap cp ca fu off:=by
 have hset:∀ g∈fs.set i f',(∃ j,∃ hj:j<fs.length,j≠i∧g=fs[j])∨g=f':=fun g hg=>by
  obtain ⟨j,hj,rfl⟩:=List.getElem_of_mem hg;rw [List.length_set] at hj;rw [List.getElem_set];by_cases e:i=j
  ·exact .inr (by rw [if_pos e])
  ·exact .inl ⟨j,hj,fun e2=>e e2.symm,by rw [if_neg e]⟩
 have hsep:∀ j (hj:j<fs.length),j≠i→Sep fs[j] fs[i]:=fun j hj hne=>by
  rcases Nat.lt_or_gt_of_ne hne with e | e
  ·exact List.pairwise_iff_getElem.1 h.ap j i hj hi e
  ·exact (List.pairwise_iff_getElem.1 h.ap i j hi hj e).symm
 have hsep2:∀ j (hj:j<fs.length),j≠i→Sep fs[j] f':=fun j hj hne=>by
  refine ⟨fun ho k hk hb=>?_,fun ho k hk hb=>?_⟩
  ·rcases hB k hb with e | e
   ·exact (hsep j hj hne).1 ho k hk e
   ·have:=(h.ok _ (List.getElem_mem hj)).lt (k:=k) (.inl hk);omega
  ·rcases hO ho k hk with e | e
   ·exact (hsep j hj hne).2 e.1 k e.2 hb
   ·have:=(h.ok _ (List.getElem_mem hj)).lt hb;omega
 refine ⟨?_,by rw [List.length_set];exact hr,fun g hg=>?_,?_⟩
 ·rw [List.length_set];refine h.blk.chg c fun hv=>?_
  rcases hv with e | e
  ·exact cF h.row h.blk (by decide) d e rfl
  ·exact h.bd (List.getElem_mem hi) (.inl e.2) rfl
 ·rcases hset g hg with ⟨j,hj,hne,rfl⟩ | rfl
  ·refine (h.ok _ (List.getElem_mem hj)).chg c fun k hk hv=>?_
   rcases hv with e | e
   ·exact h.bp (List.getElem_mem hj) hk e
   ·exact (hsep j hj hne).2 e.1 k e.2 hk
  ·exact hf
 ·rw [List.pairwise_iff_getElem];intro a b ha hb hab;rw [List.length_set] at ha hb;rw [List.getElem_set,List.getElem_set];by_cases ea:i=a
  ·subst ea;rw [if_pos rfl,if_neg (by omega)];exact (hsep2 b hb (by omega)).symm
  ·rw [if_neg ea];by_cases eb:i=b
   ·subst eb;rw [if_pos rfl];exact hsep2 a ha (by omega)
   ·rw [if_neg eb];exact List.pairwise_iff_getElem.1 h.ap a b ha hb hab
theorem iv {fs:List Fl} {i:Nat} {f':Fl}:aN (fs.set i f')=(aN fs).set i f'.abs:=List.map_set
def Nx (U:Nat→Prop) (w w':World) (k:Nat):Prop:=U k∨(w.heap.size≤k∧k<w'.heap.size)
end
end Go.Proofs.YtdimnaiiaekngaaDoor
namespace Go.Proofs.YtdimnaiiaekngaaDoor
open Go.Proofs.Tryd (prog)
open Go.RowKit
open Go.ChangeShapes Go.WideShapes Go.ChangeAt
theorem cY:dO prog 70=some (81,3,64,(.agg #[.string ⟨#[]⟩,.slice none 0 0,.slice none 0 0])):=by kernel_rfl
theorem nR:aI prog 46=true:=by kernel_rfl
theorem eU:cr prog 70=some 1:=by kernel_rfl
theorem km:cr prog 73=some 1:=by kernel_rfl
theorem kp:aI prog 33=true:=by kernel_rfl
theorem dM:bQ prog 79 1=some 1:=by kernel_rfl
theorem tu {fs:List Fl} {i:Nat}:(fs.flatMap flV).take (i*3)++(fs.flatMap flV).drop ((i+1)*3)=(fs.take i++fs.drop (i+1)).flatMap flV:=by rw [List.flatMap_append,iL eE,gG eE]
theorem r5 {fs:List Fl} {i:Nat} (x:Fl):(fs.flatMap flV).take (i*3)++flV x++(fs.flatMap flV).drop (i*3)=(fs.take i++x::fs.drop i).flatMap flV:=by rw [List.flatMap_append,List.flatMap_cons,iL eE,gG eE,List.append_assoc]
theorem s7 {fs:List Fl} {i:Nat} (hi:i<fs.length):(fs.take i++fs.drop (i+1)).length=fs.length-(i+1-i):=by rw [List.length_append,List.length_take,List.length_drop];omega
theorem rF {fs:List Fl} {i:Nat} (hi:i≤fs.length) (x:Fl):(fs.take i++x::fs.drop i).length=fs.length+1:=by rw [List.length_append,List.length_cons,List.length_take,List.length_drop];omega
theorem lO {α:Type} (l:List α) (i:Nat):(l.take i++l.drop (i+1)).Sublist l:=by
 rw [←List.eraseIdx_eq_take_drop_succ];exact List.eraseIdx_sublist ..
theorem qG (fs:List Fl) (i:Nat):aN (fs.take i++fs.drop (i+1))=(aN fs).take i++(aN fs).drop (i+1):=by unfold aN;rw [List.map_append,List.map_take,List.map_drop]
theorem mO (fs:List Fl) (i:Nat) (x:Fl):aN (fs.take i++x::fs.drop i)=(aN fs).take i++x.abs::(aN fs).drop i:=by unfold aN;rw [List.map_append,List.map_cons,List.map_take,List.map_drop]
theorem ew.from_ {w w':World} {f:Fl} (h:ew w f) (hF:ai w w'):ew w' f:=h.chg (V:=fun _=>False) hF.toChg fun _ _ h=>h
def opE (D:List Fe) (ok:Bool) (fu:Nat) (off:Bool) (nm:ByteArray):Int:=if bE ok fu off≠0 then bE ok fu off else if eR D nm then 0 else 3
section
variable {U:Nat→Prop} {w w':World} {d:Nat} {fs fs':List Fl} {Ap Ap':Option Addr} {cp cp':Nat} {ca ca':Int} {fu fu':Nat} {off off':Bool} {nm:ByteArray} {i:Nat} {fd:Bool}
theorem cW (hU:∀ k,iC d Ap fs k→U k) (h:DkH w' d fs' Ap' cp' ca' fu' off') (hok:DOk (aN fs')) (hfu:fu'≤9223372036854775807) (hf:∀ k,iC d Ap' fs' k→iC d Ap fs k∨w.heap.size≤k):cR w' (Nx U w w') d (aN fs') fu' off':=
 ⟨fs',Ap',cp',ca',h,rfl,hok,hfu,fun k hk=>(hf k hk).elim (fun e=>.inl (hU k e)) fun e=>.inr ⟨e,h.lt hk⟩⟩
theorem cA (h:fu≤9223372036854775807) (ok:Bool):fuB ok fu≤9223372036854775807:=by unfold fuB;split <;> omega
theorem p3 (h:DkH w d fs Ap cp ca fu off) (hs:KS (aN fs)) (hl:fs.length≤16) (hfu0:fu≤9223372036854775807) (hn:nm.size≤140737488351232) {b:Nat} (hb:Blk w b 9 #[.string nm]) (hbd:b≠d):Rt prog 33 [.pointer (some ⟨d,0,none⟩),.slice (some ⟨b,0,none⟩) 1 1] w fun v w'=>
 ((bE (okN nm) fu off≠0∧v=.tuple #[.pointer none,.int .i64 (bE (okN nm) fu off)])∨(bE (okN nm) fu off=0∧∃ i fd,Fnd fs nm i fd∧((fd=false∧v=.tuple #[.pointer none,.int .i64 3])∨(fd=true∧∃ g,Ap=some ⟨g,0,none⟩∧v=.tuple #[.pointer (some ⟨g,i*3,none⟩),.int .i64 0]))))∧(∃ ca',DkH w' d fs Ap cp ca' (fuB (okN nm) fu) (gV (okN nm) fu off))∧Chg (fun k=>k=d) w w':=
 (ob d fs Ap cp ca fu off w h hs hl hfu0 (some ⟨b,0,none⟩) 1 1 [nm] (iY hb) rfl (by omega) (fun s hs=>by rw [List.mem_singleton.1 hs];exact hn) (Nat.zero_lt_succ _) (fun q hq=>by cases hq;exact hbd)).mono fun v w' h=>by
  have e:[nm].all okN=okN nm:=by simp
  rw [e] at h;exact h
theorem p2 {n2:ByteArray} (h:DkH w d fs Ap cp ca fu off) (hs:KS (aN fs)) (hl:fs.length≤16) (hfu0:fu≤9223372036854775807) (hn:nm.size≤140737488351232) (hn2:n2.size≤140737488351232) {b:Nat} (hb:Blk w b 9 #[.string nm,.string n2]) (hbd:b≠d):Rt prog 33 [.pointer (some ⟨d,0,none⟩),.slice (some ⟨b,0,none⟩) 2 2] w fun v w'=>
 ((bE (okN nm&&okN n2) fu off≠0∧v=.tuple #[.pointer none,.int .i64 (bE (okN nm&&okN n2) fu off)])∨(bE (okN nm&&okN n2) fu off=0∧∃ i fd,Fnd fs nm i fd∧((fd=false∧v=.tuple #[.pointer none,.int .i64 3])∨(fd=true∧∃ g,Ap=some ⟨g,0,none⟩∧v=.tuple #[.pointer (some ⟨g,i*3,none⟩),.int .i64 0]))))∧(∃ ca',DkH w' d fs Ap cp ca' (fuB (okN nm&&okN n2) fu) (gV (okN nm&&okN n2) fu off))∧Chg (fun k=>k=d) w w':=
 (ob d fs Ap cp ca fu off w h hs hl hfu0 (some ⟨b,0,none⟩) 2 2 [nm,n2] (sV hb) rfl (by omega) (fun s hs=>by
  rcases List.mem_cons.1 hs with rfl | hs
  ·exact hn
  ·rw [List.mem_singleton.1 hs];exact hn2) (Nat.zero_lt_succ _) (fun q hq=>by cases hq;exact hbd)).mono fun v w' h=>by
  have e:[nm,n2].all okN=(okN nm&&okN n2):=by simp
  rw [e] at h;exact h
theorem o6 (h:DkH w d fs Ap cp ca fu off) (hs:KS (aN fs)) (hl:fs.length≤16) (hfu0:fu≤9223372036854775807) (hn:nm.size≤140737488351232) {b:Nat} (hb:Blk w b 9 #[.string nm]):Rt prog 44 [.pointer (some ⟨d,0,none⟩),.slice (some ⟨b,0,none⟩) 1 1] w fun v w'=>
 v=.int .i64 (bE (okN nm) fu off)∧(∃ ca',DkH w' d fs Ap cp ca' (fuB (okN nm) fu) (gV (okN nm) fu off))∧Chg (fun k=>k=d) w w':=
 (mK d fs Ap cp ca fu off w h hs hl hfu0 (some ⟨b,0,none⟩) 1 1 [nm] (iY hb) rfl (by omega) (fun s hs=>by rw [List.mem_singleton.1 hs];exact hn)).mono fun v w' h=>by
  have e:[nm].all okN=okN nm:=by simp
  rw [e] at h;exact h
theorem DOk.set (h:DOk (aN fs)) (hs:KS (aN fs)) (hi:i<fs.length) (f':Fl) (hn:f'.nm=fs[i].nm) (hv:f'.vs.length≤1048576) (hd:f'.ds.length≤1048576):DOk (aN (fs.set i f')):=by
 have hia:i<(aN fs).length:=by rw [aK];exact hi
 refine ⟨?_,by rw [aK,List.length_set,←aK];exact h.2.1,fun e he=>?_⟩
 ·rw [iv]
  have e1:(aN fs).set i f'.abs=(aN fs).map fun e=>if e.1=fs[i].nm then f'.abs else e:=by
   rw [nv hs hia (id:=fs[i].nm) (by rw [a_];rfl) (fun _=>f'.abs)]
  rw [e1]
  exact hs.map fun e=>by
   split
   ·rename_i h9;rw [h9];exact hn
   ·rfl
 ·rw [iv] at he;rcases List.mem_or_eq_of_mem_set he with he | he
  ·exact h.2.2 e he
  ·rw [he];exact ⟨hv,hd⟩
end
theorem jT (base:Nat) (A:Option Addr) (c n i m b vo vc:Nat) (xs vs:List Value) (tv:TypeId) (csv:Array Value) (w:World) (ho:w.ownsRow base 81 3 (.slice A n c) n xs) (hbs:base≤w.heap.size) (hi:i≤n) (hm:0<m) (hvl:vs.length=m*3) (hvr:w.rangeAt b vo vs) (hvb:Blk w b tv csv) (hne:∀ k,A.map (·.block)=some k→k≠b) (h1:∀ u∈xs,u.oneCell'=true) (h1v:∀ u∈vs,u.oneCell'=true) (hl:n+m≤100000000000) :
 Rt prog 60 [.slice A n c,.int .i64 (i:Nat),.slice (some ⟨b,vo,none⟩) m vc] w (fun v w'=>(∃ A' c',v=.slice A' (n+m) c'∧w'.ownsRow base 81 3 (.slice A' (n+m) c') (n+m) (xs.take (i*3)++vs++xs.drop (i*3))∧∀ q,A'.map (·.block)=some q→A.map (·.block)=some q∨w.heap.size≤q)∧w.grownBy w' (A.map (·.block))):=by
 have hxl:xs.length=n*3:=ho.1;have hdl:(xs.drop (i*3)).length=(n-i)*3:=by rw [List.length_drop,hxl];omega
 have hcap:=rk ho;refine enter (n:=95) Tryd.func60 rfl rfl rfl (ag (ab (ass rfl (ah (ae (ag (ab (mvs rfl (mvi rfl (aa (bj (l:=i) (h:=n) aZ rfl (.inr ⟨_,_,_,rfl,rfl,rfl⟩) (.inl ⟨rfl,rfl⟩) (by omega) (by omega)) (ah (ae (ag (ab (mvs rfl ?_)))))))))))))));refine aa (bC c_ rfl) (asi rfl (ah (ae (ag (ag (ab (mvi rfl (aa (br rfl rfl) (ah (ae (tb rfl (fun Q1=>?_) (fun Q1=>?_))))))))))))
 ·exfalso;omega
 refine aC (ae (ag (ab (mvs rfl (aa (bC c_ rfl) (asi rfl (ah (ae (ag (ag (ab (mvi rfl (mvi rfl (aa (br rfl rfl) (ah (ae ?_))))))))))))))));refine tb rfl (fun Q2=>?_) (fun Q2=>?_)
 ·obtain rfl:i=n:=by omega
  refine ag (ab (mvs rfl (mvs rfl ?_)));have hs25:=Nat.le_refl (w).heap.size;refine nc cY rfl (by decide) rfl ho hbs rfl hvl ⟨b,vo,rfl,hvr⟩ h1v (by omega) (by omega) ?_;intro A25 c25 w3 ho25 hg25 hL25;refine ass rfl (ah (ae (aw (aD (bb (v:=.slice _ _ _) rfl rfl ?_)))));exact ⟨⟨A25,c25,rfl,by rw [List.take_of_length_le (by omega),List.drop_of_length_le (by omega),List.append_nil];exact ho25,fun q hq=>hL25.elim (fun e=>.inl (e ▸ hq)) (fun e=>.inr (by rw [e] at hq;cases hq;exact hs25))⟩,hg25⟩
 obtain ⟨g,cur,rfl,hg,hbk,hnc,hcm,hcl,hct⟩:=lB ho (by omega);have hgb:g≠b:=hne g rfl;have hbz:w.grownBy w (some g):=World.grownBy.refl _ _;refine aC (ae (ag (ag (ab (mvi rfl (mvi rfl (aa (bz rfl rfl (by omega)) (mvs rfl (aa (sm c_ rfl) (aa (cm rfl rfl) (ah (ae (tc rfl (fun Q4=>?_) (fun Q4=>?_))))))))))))))
 ·refine ag (ab (mvs rfl (mvi rfl (aa (cw (v':=.slice (some ⟨g,0,none⟩) i c) (bj (l:=0) (h:=i) aZ rfl (.inl ⟨rfl,rfl⟩) (.inr ⟨_,_,_,rfl,rfl,rfl⟩) (by omega) (by omega)) (by rw [dC,Nat.sub_zero,Nat.sub_zero])) ?_))));refine mvi rfl (mvi rfl (aa (bz rfl rfl (by omega)) (mvi rfl (aa (hZ rfl rfl (by omega)) (na (kn:=.i64) (olds:=xs.take (i*3)) cY (by kernel_rfl) rfl (by decide) rfl rfl (by rw [List.length_take,hxl];omega) (fun _=>⟨g,0,rfl,pO hbk hct⟩) (by omega) (by omega) (by unfold maxLen;omega) (by omega) (by omega) ?_)))));intro g2 c2 w5 cur2 hg2 E40 hb2 hc2 hc2m hcl2 hct2;obtain hc2:n+m≤c2:=by omega
  replace hbz:=cT hbz (ai.grown E40 _);replace hbk:=hbk.from_ E40;have hgg:g≠g2:=by have:=ho.lt g rfl;omega
  have hvr2:=ep E40 hvr;have hbg2:b≠g2:=by have:=hvb.lt;omega
  refine ass rfl (ah (ae (ag (ab (mvs rfl (mvi rfl (aa (bj (l:=i) (h:=i+(n+m-i)) aZ rfl (.inr ⟨_,_,_,rfl,rfl,rfl⟩) (.inl ⟨rfl,rfl⟩) (by omega) (by omega)) (mvs rfl (fq (news:=vs) (g:=g2) (o:=i*3) aZ rfl rfl (by rw [hvl];congr 1;omega) (fun h=>by rw [bN (by omega),Nat.zero_add]) (fun h=>⟨b,vo,rfl,hvr2⟩) hb2 (by rw [hvl,hcl2];omega) h1v ?_)))))))));intro w6 O45 P45;replace hbz:=kT hbz O45 (by have:=hbk.lt;have:=ho.lt g rfl;omega);replace hbk:=hbk.only O45 hgg;refine ah (ae (ag ?_));apply cE 8 [(46,eqp _),(47,eqp _),(48,eqp _),(49,eqp _),(50,eqp _),(51,eqp _),(52,eqp _),(53,eqp _)] (by repeat first | exact cV | refine cU ?_ | refine cx ?_) (by kernel_rfl) (by kernel_rfl) ⟨aj _,aj _,aj _,aj _,aj _,aj _,aj _,aj _,trivial⟩
  case hop=>
   constructor
   ·rintro-w8 D8;exact an (aB (v:=.slice _ _ _) rfl) rfl
   constructor
   ·rintro-w9 D9;exact an (aB (v:=.int _ _) rfl) rfl
   constructor
   ·rintro-w10 D10;exact an (aB (v:=.int _ _) rfl) rfl
   constructor
   ·rintro-w11 D11;rintro _ rfl _ rfl;exact an (bz rfl rfl (by omega)) rfl
   constructor
   ·rintro-w12 D12;rintro _ rfl _ rfl;exact an (bj (l:=i+m) (h:=i+(n+m-i)) aZ rfl (.inr ⟨_,_,_,rfl,rfl,rfl⟩) (.inl ⟨rfl,rfl⟩) (by omega) (by omega)) rfl
   constructor
   ·rintro-w13 D13;exact an (aB (v:=.slice _ _ _) rfl) rfl
   constructor
   ·rintro-w14 D14;exact an (aB (v:=.int _ _) rfl) rfl
   constructor
   ·rintro-w15 D15;rintro _ rfl _ rfl;exact an (bj (l:=i) (h:=n) aZ rfl (.inr ⟨_,_,_,rfl,rfl,rfl⟩) (.inl ⟨rfl,rfl⟩) (by omega) (by omega)) rfl
   exact trivial
  case hend=>
   intro w16 D16;rintro _ rfl _ rfl _ rfl _ rfl _ rfl _ rfl _ rfl _ rfl;show St ..;replace hbz:=cT hbz (ai.grown D16 _);replace hbk:=hbk.from_ D16;replace P45:=P45.from_ D16;refine fq (news:=xs.drop (i*3)) (g:=g2) (o:=(i+m)*3) aZ rfl rfl (by rw [hdl];congr 1;omega) (fun h=>by rw [bN (by rw [hdl] at h;omega),Nat.zero_add]) (fun h=>⟨g,i*3,by rw [bN (by omega),Nat.zero_add],jD hbk hct⟩) P45 (by rw [hdl,bX _ _ _ (by rw [hvl,hcl2];omega),hcl2];omega) (fun v hv=>h1 v (List.mem_of_mem_drop hv)) ?_;intro w17 O54 P54;replace hbz:=kT hbz O54 (by have:=ho.lt g rfl;omega);refine ah (ae (ag (ab (mvs rfl (ass rfl (ah (ae (aw (aD (bb (v:=.slice _ _ _) rfl rfl ?_))))))))));have hnm:i+(n+m-i)=n+m:=by omega
   rw [hnm];have hbg:base≤g2:=by omega
   exact ⟨⟨_,_,rfl,jN hbg P54 hc2 hc2m (by rw [bX _ _ _ (by rw [hdl,bX _ _ _ (by rw [hvl,hcl2];omega),hcl2];omega),bX _ _ _ (by rw [hvl,hcl2];omega),hcl2]) (mw hi hc2 hcl2 hxl hct2 hvl).2,fun q hq=>.inr (by cases hq;show w.heap.size≤g2;omega)⟩,hbz⟩
 refine aC (ae (ag (ab (mvs rfl (mvi rfl (mvi rfl (aa (bz rfl rfl (by omega)) (aa (cw (v':=.slice (some ⟨g,0,none⟩) (n+m) c) (bj (l:=0) (h:=n+m) aZ rfl (.inl ⟨rfl,rfl⟩) (.inr ⟨_,_,_,rfl,rfl,rfl⟩) (by omega) (by omega)) (by rw [dC,Nat.sub_zero,Nat.sub_zero])) ?_))))))));refine ass rfl (ah (ae (ag (ag (ab (mvs rfl (mvs rfl (mvi rfl (mvi rfl (aa (bz rfl rfl (by omega)) (aa (bj (l:=i+m) (h:=n+m) aZ rfl (.inr ⟨_,_,_,rfl,rfl,rfl⟩) (.inl ⟨rfl,rfl⟩) (by omega) (by omega)) ?_)))))))))));refine aa (l9 (tS:=70) (tR:=4) (g1:=b) (o1:=vo) (g2:=g) (o2:=(i+m)*3) Tryd.func64 (by kernel_rfl) (by kernel_rfl) (by kernel_rfl) (by kernel_rfl) aZ rfl (by show Value.slice _ _ _=_;rw [bN (by omega),Nat.zero_add]) hgb.symm hvb hbk (by simp only [List.size_toArray,hcl];omega)) ?_;refine aa (dB (bl rfl) rfl) (ah (ae (bR rfl (ag ?_))));apply cE 8 [(69,eqp _),(70,eqp _),(71,eqp _),(72,eqp _),(73,eqp _),(74,eqp _),(75,eqp _),(76,eqp _)] (by repeat first | exact cV | refine cU ?_ | refine cx ?_) (by kernel_rfl) (by kernel_rfl) ⟨aj _,aj _,aj _,aj _,aj _,aj _,aj _,aj _,trivial⟩
 case hop=>
  constructor
  ·rintro-w19 D19;exact an (aB (v:=.slice _ _ _) rfl) rfl
  constructor
  ·rintro-w20 D20;exact an (aB (v:=.int _ _) rfl) rfl
  constructor
  ·rintro-w21 D21;exact an (aB (v:=.int _ _) rfl) rfl
  constructor
  ·rintro-w22 D22;rintro _ rfl _ rfl;exact an (bz rfl rfl (by omega)) rfl
  constructor
  ·rintro-w23 D23;rintro _ rfl _ rfl;exact an (bj (l:=i+m) (h:=n+m) aZ rfl (.inr ⟨_,_,_,rfl,rfl,rfl⟩) (.inl ⟨rfl,rfl⟩) (by omega) (by omega)) rfl
  constructor
  ·rintro-w24 D24;exact an (aB (v:=.slice _ _ _) rfl) rfl
  constructor
  ·rintro-w25 D25;exact an (aB (v:=.int _ _) rfl) rfl
  constructor
  ·rintro-w26 D26;rintro _ rfl _ rfl;exact an (bj (l:=i) (h:=n+m) aZ rfl (.inr ⟨_,_,_,rfl,rfl,rfl⟩) (.inl ⟨rfl,rfl⟩) (by omega) (by omega)) rfl
  exact trivial
 case hend=>
  intro w27 D27;rintro _ rfl _ rfl _ rfl _ rfl _ rfl _ rfl _ rfl _ rfl;show St ..;replace hbz:=cT hbz (ai.grown D27 _);replace hbk:=hbk.from_ D27;have hvr2:=ep D27 hvr;refine fq (news:=xs.drop (i*3)) (g:=g) (o:=(i+m)*3) aZ rfl rfl (by rw [hdl];congr 1;omega) (fun h=>by rw [bN (by rw [hdl] at h;omega),Nat.zero_add]) (fun h=>⟨g,i*3,by rw [bN (by omega),Nat.zero_add],jD hbk hct⟩) hbk (by rw [hdl,hcl];omega) (fun v hv=>h1 v (List.mem_of_mem_drop hv)) ?_;intro w28 O77 P77;replace hbz:=cT hbz (b_.grown O77);refine ah (ae (ag (ab (mvs rfl (mvi rfl (aa (bj (l:=i) (h:=n+m) aZ rfl (.inr ⟨_,_,_,rfl,rfl,rfl⟩) (.inl ⟨rfl,rfl⟩) (by omega) (by omega)) (mvs rfl ?_)))))));refine fq (news:=vs) (g:=g) (o:=i*3) aZ rfl rfl (by rw [hvl];congr 1;omega) (fun h=>by rw [bN (by omega),Nat.zero_add]) (fun h=>⟨b,vo,rfl,fun j v hv=>(O77.cell (Ne.symm hgb)).trans (hvr2 j v hv)⟩) P77 (by rw [hvl,bX _ _ _ (by rw [hdl,hcl];omega),hcl];omega) h1v ?_;intro w29 O82 P82;replace hbz:=cT hbz (b_.grown O82);refine ah (ae (ag (ab (mvs rfl (ass rfl (ah (ae (aw (aD (bb (v:=.slice _ _ _) rfl rfl ?_))))))))));have hct3:cur.take (i*3)=xs.take (i*3):=by rw [←hct,List.take_take,Nat.min_eq_left (by omega)]
  exact ⟨⟨_,_,rfl,jN hg P82 (by omega) hcm (by rw [bX _ _ _ (by rw [hvl,bX _ _ _ (by rw [hdl,hcl];omega),hcl];omega),bX _ _ _ (by rw [hdl,hcl];omega),hcl]) (mw hi (by omega) hcl hxl hct3 hvl).1,fun q hq=>.inl hq⟩,hbz⟩
theorem nE (base:Nat) (A:Option Addr) (c n i j:Nat) (xs:List Value) (w:World) (ho:w.ownsRow base 81 3 (.slice A n c) n xs) (hij:i<j) (hj:j≤n) (h1:∀ u∈xs,u.oneCell'=true) (hl:n≤100000000000) :
 Rt prog 46 [.slice A n c,.int .i64 (i:Nat),.int .i64 (j:Nat)] w (fun v w'=>(∃ A' c',v=.slice A' (n-(j-i)) c'∧w'.ownsRow base 81 3 (.slice A' (n-(j-i)) c') (n-(j-i)) (xs.take (i*3)++xs.drop (j*3))∧∀ q,A'.map (·.block)=some q→A.map (·.block)=some q)∧w.grownBy w' (A.map (·.block))):=by
 obtain ⟨g,cur,rfl,hg,hbk,hnc,hcm,hcl,hct⟩:=lB ho (by omega);have hxl:xs.length=n*3:=ho.1;have hdl:(xs.drop (j*3)).length=(n-j)*3:=by rw [List.length_drop,hxl];omega
 have hno:n-(j-i)=i+(n-j):=by omega
 have hbz:w.grownBy w (some g):=World.grownBy.refl _ _;refine enter (n:=33) Tryd.func46 rfl rfl rfl (ag (ab (ass rfl (ah (ae (ag (ab (mvs rfl (mvi rfl (mvi rfl (mvs rfl (aa (bC c_ rfl) ?_))))))))))));refine aa (oM (l:=i) (h:=j) (mx:=n) aZ rfl rfl rfl rfl (by omega) (by omega) (by omega)) (ah (ae (ag (ag (ab (mvi rfl (mvi rfl (aa (br rfl rfl) (ah (ae (tb rfl (fun Q1=>?_) (fun Q1=>?_))))))))))))
 ·exfalso;omega
 refine aC (ae (ag (ab (mvs rfl (aa (bC c_ rfl) (asi rfl (ah (ae (ag ?_)))))))));apply cE 6 [(20,eqp _),(21,eqp _),(22,eqp _),(23,eqp _),(24,eqp _),(25,eqp _)] (by repeat first | exact cV | refine cU ?_ | refine cx ?_) (by kernel_rfl) (by kernel_rfl) ⟨aj _,aj _,aj _,aj _,aj _,aj _,trivial⟩
 case hop=>
  constructor
  ·rintro-w3 D3;exact an (aB (v:=.slice _ _ _) rfl) rfl
  constructor
  ·rintro-w4 D4;exact an (aB (v:=.int _ _) rfl) rfl
  constructor
  ·rintro-w5 D5;rintro _ rfl _ rfl;exact an (cw (v':=.slice (some ⟨g,0,none⟩) i c) (bj (l:=0) (h:=i) aZ rfl (.inl ⟨rfl,rfl⟩) (.inr ⟨_,_,_,rfl,rfl,rfl⟩) (by omega) (by omega)) (by rw [dC,Nat.sub_zero,Nat.sub_zero])) rfl
  constructor
  ·rintro-w6 D6;exact an (aB (v:=.slice _ _ _) rfl) rfl
  constructor
  ·rintro-w7 D7;exact an (aB (v:=.int _ _) rfl) rfl
  constructor
  ·rintro-w8 D8;rintro _ rfl _ rfl;exact an (bj (l:=j) (h:=n) aZ rfl (.inr ⟨_,_,_,rfl,rfl,rfl⟩) (.inl ⟨rfl,rfl⟩) (by omega) (by omega)) rfl
  exact trivial
 case hend=>
  intro w9 D9;rintro _ rfl _ rfl _ rfl _ rfl _ rfl _ rfl;show St ..;replace hbz:=cT hbz (ai.grown D9 _);replace hbk:=hbk.from_ D9;refine nb (news:=xs.drop (j*3)) (cur:=cur) aZ rfl rfl hdl (fun h=>⟨g,j*3,by rw [bN (by omega),Nat.zero_add],jD hbk hct⟩) hbk (fun v hv=>h1 v (List.mem_of_mem_drop hv)) (by omega) (by rw [hdl,hcl];omega) ?_;intro w10 O26 P26;replace hbz:=cT hbz (b_.grown O26);refine ass rfl (ah (ae (ag (ab (mvs rfl (mvs rfl (aa (bC c_ rfl) (mvi rfl (aa (bj (l:=i+(n-j)) (h:=n) aZ rfl (.inr ⟨_,_,_,rfl,rfl,by omega⟩) (.inr ⟨_,_,_,rfl,rfl,rfl⟩) (by omega) (by omega)) ?_)))))))));refine oI (g:=g) (o:=(i+(n-j))*3) cY rfl rfl (fun h=>by rw [bN (by omega),Nat.zero_add]) P26 (by rw [bX _ _ _ (by rw [hdl,hcl];omega),hcl];omega) (by decide) ?_;intro w11 zs O6 hzl P6;replace hbz:=cT hbz (b_.grown O6);have hzl2:zs.length=(j-i)*3:=by rw [hzl];congr 1;omega
  refine ah (ae (ag (ab (mvs rfl (ass rfl (ah (ae (aw (bb (v:=.slice _ _ _) rfl rfl ?_)))))))));rw [hno];exact ⟨⟨_,_,rfl,jN hg P6 (by omega) hcm (by rw [bX _ _ _ (by rw [bX _ _ _ (by rw [hdl,hcl];omega),hzl2,hcl];omega),bX _ _ _ (by rw [hdl,hcl];omega),hcl]) (qu (by omega) hj hnc hcl hct hzl2),fun q hq=>hq⟩,hbz⟩
theorem bZ (d:Nat) (fs:List Fl) (Ap:Option Addr) (cp:Nat) (ca:Int) (fu:Nat) (off:Bool) (w:World) (h:DkH w d fs Ap cp ca fu off) (hs:KS (aN fs)) (hl:fs.length≤16) (hfu0:fu≤9223372036854775807) (id:ByteArray) :
 Rt prog 34 [.pointer (some ⟨d,0,none⟩),.string id] w (fun v w'=>v=.tuple #[]∧∃ fs' Ap' cp',DkH w' d fs' Ap' cp' ca fu off∧aN fs'=eY (aN fs) id∧Chg (fun k=>k=d∨Ap.map (·.block)=some k) w w'∧(∀ f,f∈fs'→f∈fs)∧(∀ k,Ap'.map (·.block)=some k→Ap.map (·.block)=some k)):=by
 refine enter (n:=24) Tryd.func34 rfl rfl rfl (ag (ab (mvp rfl (mvg rfl (av eV (il d fs Ap cp ca fu off _ (h.from_ ai.rfl_) hs hl hfu0 id) ?_)))));rintro v9 w1 ⟨⟨i,fd,rfl,hf⟩,E9⟩;refine mvt rfl (aa (ax rfl rfl) (aa (ax rfl rfl) (asi rfl (asb rfl (ah (ae (ag (ab (mvb rfl (ah (ae (aJ rfl (fun Q2=>?_) (fun Q2=>?_)))))))))))))
 ·(try with_reducible first | (replace Q2 := dT_ Q2; trace "@MK N bZ:c12+ 1.1") | (replace Q2 := dF_ Q2; trace "@MK N bZ:c12+ 1.2") | (replace Q2 := ef Q2; trace "@MK N bZ:c12+ 1.3") | (replace Q2 := eh Q2; trace "@MK N bZ:c12+ 1.4"))
  (try with_reducible first | (replace Q2 := dT_ Q2; trace "@MK N bZ:c12+ 2.1") | (replace Q2 := dF_ Q2; trace "@MK N bZ:c12+ 2.2") | (replace Q2 := fz Q2; trace "@MK N bZ:c12+ 2.3") | (replace Q2 := fA Q2; trace "@MK N bZ:c12+ 2.4") | (replace Q2 := gi Q2; trace "@MK N bZ:c12+ 2.5") | (replace Q2 := gj Q2; trace "@MK N bZ:c12+ 2.6"))
  have hfd:fd=true:=by first | assumption | simp_all
  obtain ⟨hi,hi2⟩:=hf.2.1 hfd;refine ab (mvp rfl (mvp rfl (aa (az rfl) (aa (af bc rfl) (aa (ao cj rfl (by exact (h.blk.from_ (ai.rfl_.next E9)).rd 0 rfl)) ?_)))));refine mvi rfl (mvi rfl (aa (bz (b:=1) rfl rfl (by omega)) ?_));have hF21:=(ai.rfl_.next E9);refine av nR (nE 0 Ap cp fs.length i (i+1) (fs.flatMap flV) _ (h.row.kept_from (ai.rfl_.next E9)) (by omega) (by omega) (lJ _) (by omega)) ?_;rintro v21 w3 ⟨⟨A21,c21,rfl,ho21,hA21⟩,hg21⟩;have hb21:=(h.blk.from_ hF21).grown hg21 (cF (h.row.kept_from hF21) (h.blk.from_ hF21) (by decide));rw [tu] at ho21;refine aa (az rfl) (aa (af bc rfl) (fg (v:=.slice _ _ _) eU rfl rfl rfl (hb21) (by show 0<4;decide) ?_));intro w4 O2 P2;refine ah (lK (sq rfl ?_));have hC:Chg (fun k=>k=d∨Ap.map (·.block)=some k) w _:=(hF21.toChg.next (Chg.of_grown hg21 fun k e=>.inr e)).next (O2.toChg (.inl rfl));have hr:=fv ho21 O2 (cF ho21 hb21 (by decide));rw [←s7 hi] at hr;refine ⟨rfl,_,A21,c21,h.setR hC (by rw [s7 hi];exact P2) hr (fun f hf=>.inl ((lO fs i).subset hf)) (h.ap.sublist (lO fs i)),?_,hC,fun f hf=>(lO fs i).subset hf,hA21⟩;rw [qG,rL hs (i:=i) (by rw [aK];exact hi) (by rw [a_];exact hi2)]
 (try with_reducible first | (replace Q2 := dT_ Q2; trace "@MK N bZ:c12- 1.1") | (replace Q2 := dF_ Q2; trace "@MK N bZ:c12- 1.2") | (replace Q2 := ef Q2; trace "@MK N bZ:c12- 1.3") | (replace Q2 := eh Q2; trace "@MK N bZ:c12- 1.4"))
 (try with_reducible first | (replace Q2 := dT_ Q2; trace "@MK N bZ:c12- 2.1") | (replace Q2 := dF_ Q2; trace "@MK N bZ:c12- 2.2") | (replace Q2 := fz Q2; trace "@MK N bZ:c12- 2.3") | (replace Q2 := fA Q2; trace "@MK N bZ:c12- 2.4") | (replace Q2 := gi Q2; trace "@MK N bZ:c12- 2.5") | (replace Q2 := gj Q2; trace "@MK N bZ:c12- 2.6"))
 have hfd:fd=false:=by first | assumption | simp_all
 refine aC (lK (sq rfl ?_));have hno:eR (aN fs) id=false:=by rw [hf.has hs,hfd]
 exact ⟨rfl,fs,Ap,cp,h.from_ (ai.rfl_.next E9),(rK fun e he h9=>by have:=fx.2 ⟨e,he,h9⟩;rw [hno] at this;cases this).symm,((ai.rfl_.next E9)).toChg,fun f hf=>hf,fun k hk=>hk⟩
def fp (D:List Fe) (fu:Nat) (off:Bool) (nm:ByteArray):List Fe:=if opE D (okN nm) fu off nm=0 then pZ D nm (dI D nm) else D
def tD (D:List Fe) (fu:Nat) (off:Bool) (nm:ByteArray):List Fe:=if opE D (okN nm) fu off nm=0 then eY D nm else D
def tw (D:List Fe) (fu:Nat) (off:Bool) (nm:ByteArray) (n:Int):Int:=if n<0 then 1 else if opE D (okN nm) fu off nm≠0 then opE D (okN nm) fu off nm else if ((dI D nm).length:Int)<n then 1 else 0
def tH (D:List Fe) (fu:Nat) (off:Bool) (nm:ByteArray) (n:Int):List Fe:=if tw D fu off nm n=0 then oS D nm ((dI D nm).take n.toNat) else D
theorem qM (U:Nat→Prop) (d:Nat) (D:List Fe) (fu:Nat) (off:Bool) (w:World) (hd:cR w U d D fu off) (nm:ByteArray) (hn:nm.size≤140737488351232) :
 Rt prog 52 [.pointer (some ⟨d,0,none⟩),.string nm] w (fun v w'=>v=.int .i64 (opE D (okN nm) fu off nm)∧cR w' (Nx U w w') d (fp D fu off nm) (fuB (okN nm) fu) (gV (okN nm) fu off)∧Chg U w w'):=by
 have hd0:=hd;obtain ⟨fs,Ap,cp,ca,h,hD,hok,hfu0,hU⟩:=hd;subst hD;obtain ⟨hs,hl,hz⟩:=hok;rw [aK] at hl;refine enter (n:=26) Tryd.func52 rfl rfl rfl (ag (ab (asi rfl (ah (ae (ag (ab (mvp rfl (mvg rfl (jq (v:=.string _) cB rfl rfl rfl ?_))))))))));intro b10 w1 E10 hb10 hk10;have hF11:ai w _:=(ai.rfl_.next E10);have hbd:b10≠d:=by have:=h.blk.lt;omega
 refine av kp (p3 (h.from_ (ai.rfl_.next E10)) hs hl hfu0 hn hk10 hbd) ?_;rintro v11 w2 ⟨hop,⟨ca2,h2⟩,hC11⟩;have hT:=(hF11.toChg (U:=U)).next (hC11.wide fun k hk=>.inl (by rw [hk];exact hU d (.inl rfl)));rcases hop with ⟨hz0,rfl⟩ | ⟨hz0,i,fd,hf,⟨hfd,rfl⟩ | ⟨hfd,g,rfl,rfl⟩⟩
 ·refine mvt rfl (aa (ax rfl rfl) (aa (ax rfl rfl) (asp rfl (asi rfl (ah (ae (ag (ag (ab (mvi rfl (aa (cc rfl rfl) (ah (ae ?_)))))))))))));refine s_ rfl (fun Q3=>?_) (fun Q3=>?_);rotate_left
  ·exfalso;omega
  refine ag (ab (mvi rfl (asi rfl (ah (ae (aw (aD (bb (v:=.int _ _) rfl rfl ?_))))))))
  first
   |(have e1:opE (aN fs) (okN nm) fu off nm=bE (okN nm) fu off:=by unfold opE;rw [if_pos hz0]
     rw [e1];refine ⟨rfl,?_,hT.next (ai.rfl_).toChg⟩;rw [show fp (aN fs) fu off nm=aN fs by unfold fp;rw [e1,if_neg hz0]];exact cW hU (h2.from_ ai.rfl_) ⟨hs,by rw [aK];exact hl,hz⟩ (cA hfu0 _) fun k hk=>.inl hk)
   |(have e1:opE (aN fs) (okN nm) fu off nm=3:=by unfold opE;rw [if_neg (by omega),hf.has hs,hfd];rfl
     rw [e1];refine ⟨rfl,?_,hT.next (ai.rfl_).toChg⟩;rw [show fp (aN fs) fu off nm=aN fs by unfold fp;rw [e1,if_neg (by decide)]];exact cW hU (h2.from_ ai.rfl_) ⟨hs,by rw [aK];exact hl,hz⟩ (cA hfu0 _) fun k hk=>.inl hk)
 ·refine mvt rfl (aa (ax rfl rfl) (aa (ax rfl rfl) (asp rfl (asi rfl (ah (ae (ag (ag (ab (mvi rfl (aa (cc rfl rfl) (ah (ae ?_)))))))))))));refine s_ rfl (fun Q5=>?_) (fun Q5=>?_);rotate_left
  ·exfalso;omega
  refine ag (ab (mvi rfl (asi rfl (ah (ae (aw (aD (bb (v:=.int _ _) rfl rfl ?_))))))))
  first
   |(have e1:opE (aN fs) (okN nm) fu off nm=bE (okN nm) fu off:=by unfold opE;rw [if_pos hz0]
     rw [e1];refine ⟨rfl,?_,hT.next (ai.rfl_).toChg⟩;rw [show fp (aN fs) fu off nm=aN fs by unfold fp;rw [e1,if_neg hz0]];exact cW hU (h2.from_ ai.rfl_) ⟨hs,by rw [aK];exact hl,hz⟩ (cA hfu0 _) fun k hk=>.inl hk)
   |(have e1:opE (aN fs) (okN nm) fu off nm=3:=by unfold opE;rw [if_neg (by omega),hf.has hs,hfd];rfl
     rw [e1];refine ⟨rfl,?_,hT.next (ai.rfl_).toChg⟩;rw [show fp (aN fs) fu off nm=aN fs by unfold fp;rw [e1,if_neg (by decide)]];exact cW hU (h2.from_ ai.rfl_) ⟨hs,by rw [aK];exact hl,hz⟩ (cA hfu0 _) fun k hk=>.inl hk)
 obtain ⟨hi,hi2⟩:=hf.2.1 hfd;have hia:i<(aN fs).length:=by rw [aK];exact hi
 have hk1:(aN fs)[i].1=nm:=by rw [a_];exact hi2
 have hzi:=hz _ (List.getElem_mem hia);rw [a_] at hzi;have hz1:fs[i].vs.length≤1048576:=hzi.1;have hz2:fs[i].ds.length≤1048576:=hzi.2;have hgv:dI (aN fs) nm=fs[i].vs:=by rw [gE hs hia hk1,a_];rfl
 obtain ⟨bp,op,e9,hcd⟩:=(iX h2.row).2 (by omega);cases e9;have hce:=hcd i hi;have hfi:=h2.ok _ (List.getElem_mem hi);refine mvt rfl (aa (ax rfl rfl) (aa (ax rfl rfl) (asp rfl (asi rfl (ah (ae (ag (ag (ab (mvi rfl (aa (cc rfl rfl) (ah (ae ?_)))))))))))));refine s_ rfl (fun Q7=>?_) (fun Q7=>?_)
 ·exfalso;omega
 refine aC (ae (ag (ab (mvp rfl (mvp rfl (aa (az rfl) (aa (af bS rfl) (aa (af bT rfl) (aa (ao bg rfl (by have h9:=hce 1 _ rfl;simpa [Nat.add_assoc] using eA ai.rfl_ h9)) ?_)))))))));refine aa (az rfl) (aa (af bS rfl) (aa (af dM rfl) ?_));have hF4:ai _ w2:=ai.rfl_;refine m_ (o:=i*3+2) (v:=.slice fs[i].vA fs[i].vs.length fs[i].vc) km rfl rfl rfl (h2.row.kept_from hF4) (by omega) ?_;intro w8 O4 P4;refine ah (ae (ag (ab (asi rfl (ah (ae (aw (bb (v:=.int _ _) rfl rfl ?_))))))));have e1:opE (aN fs) (okN nm) fu off nm=0:=by unfold opE;rw [if_neg (by omega),hf.has hs,hfd];rfl
 obtain ⟨f2,hf2⟩:∃ f2:Fl,f2={ fs[i] with dA:=fs[i].vA,dc:=fs[i].vc,ds:=fs[i].vs }:=⟨_,rfl⟩;have hP:=P4;rw [l5 eE fs i 2 hi (by decide) f2 (.slice fs[i].vA fs[i].vs.length fs[i].vc) (by rw [hf2];rfl)] at hP;have hk:=h2.put hi (f':=f2) (w':=w8) (hF4.toChg.next (O4.toChg (.inl rfl))) hP (by rw [hf2];exact ⟨(hfi.from_ hF4).v.chg (O4.toChg (U:=fun k=>k=g) rfl) (fun q hq e=>h2.bp (List.getElem_mem hi) (.inl hq) (by rw [e];rfl)),(hfi.from_ hF4).v.chg (O4.toChg (U:=fun k=>k=g) rfl) (fun q hq e=>h2.bp (List.getElem_mem hi) (.inl hq) (by rw [e];rfl)),(hfi.from_ hF4).vt.chg (O4.toChg (U:=fun k=>k=g) rfl) (fun q hq e=>h2.bp (List.getElem_mem hi) (.inl hq) (by rw [e];rfl)),(hfi.from_ hF4).vt.chg (O4.toChg (U:=fun k=>k=g) rfl) (fun q hq e=>h2.bp (List.getElem_mem hi) (.inl hq) (by rw [e];rfl)),fun ho=>⟨ic (((hfi.from_ hF4).o ho).1) (O4.toChg (U:=fun k=>k=g) rfl) (fun q hq e=>h2.bp (List.getElem_mem hi) (.inl hq) (by rw [e];rfl)),.inr ⟨rfl,[],(List.append_nil _).symm⟩⟩,hfi.n⟩) (by rw [hf2];exact fun k hk=>.inl (hk.elim .inl .inl)) (by rw [hf2];exact fun ho k hk=>.inl ⟨ho,hk⟩);have hD:aN (fs.set i f2)=pZ (aN fs) nm (dI (aN fs) nm):=by rw [iv,rj hs hia hk1,hgv,a_,hf2,←hi2];rfl
 rw [e1];refine ⟨rfl,?_,hT.next (hF4.toChg.next (O4.toChg (hU g (.inr (.inl rfl)))))⟩;rw [show fp (aN fs) fu off nm=aN (fs.set i f2) by unfold fp;rw [e1,if_pos rfl,hD]];refine cW hU hk (DOk.set ⟨hs,by rw [aK];exact hl,hz⟩ hs hi f2 (by rw [hf2]) (by rw [hf2];exact hz1) (by rw [hf2];exact hz1)) (cA hfu0 _) fun k hk=>?_
 rcases hk with e | e | ⟨f3,h3,e⟩
 ·exact .inl (.inl e)
 ·exact .inl (.inr (.inl e))
 ·rcases List.mem_or_eq_of_mem_set h3 with h3 | h3
  ·exact .inl (.inr (.inr ⟨f3,h3,e⟩))
  ·exact .inl (.inr (.inr ⟨fs[i],List.getElem_mem hi,by rw [h3,hf2] at e;exact e.elim .inl .inl⟩))
end Go.Proofs.YtdimnaiiaekngaaDoor
namespace Go.Proofs.YtdimnaiiaekngaaDoor
open Go.Proofs.Tryd (prog)
open Go.RowKit
open Go.ChangeShapes Go.WideShapes Go.ChangeAt
end Go.Proofs.YtdimnaiiaekngaaDoor
namespace Go.Proofs.YtdimnaiiaekngaaDoor
open Go.Proofs.Tryd (prog)
open Go.RowKit
abbrev PT:=List (Nat×Nat×((Nat→Bool)→Value→World→Prop))
def gv (L:List (Nat×Value)) (T:PT) (S:Nat→Bool) (L':List (Nat×Value)) (w:World):Prop:=
 (∀ t,(∀ p∈T,p.2.1≠t)→aM L' t=aM L t)∧(∀ p∈T,S p.1=true→p.2.2 S (aM L' p.2.1) w)∧∀ p∈T,S p.1=false→aM L' p.2.1=aM L p.2.1
def kC:List (Nat×Nat)→Prop
 |[]=>True
 |p::r=>(∀ q∈r,q.1≠p.1∧q.2≠p.2)∧kC r
def qK:List (Nat×Nat)→Bool
 |[]=>true
 |p::r=>(r.all fun q=> !(Nat.beq q.1 p.1)&&!(Nat.beq q.2 p.2))&&qK r
theorem p7 {a b:Nat}:Nat.beq a b=false↔a≠b:=by
 refine ⟨fun h e=>?_,fun h=>?_⟩
 ·subst e;rw [Nat.beq_refl] at h;cases h
 ·rcases hb:Nat.beq a b with _ | _
  ·rfl
  ·exact absurd (Nat.eq_of_beq_eq_true hb) h
theorem nV:∀ {l:List (Nat×Nat)},qK l=true→kC l
 |[],_=>trivial
 |p::r,h=>by
  simp only [qK,Bool.and_eq_true,List.all_eq_true,Bool.not_eq_true',p7] at h;exact ⟨fun q hq=>h.1 q hq,nV h.2⟩
theorem jn:∀ {T:PT},kC (T.map fun p=>(p.1,p.2.1))→∀ {p q:Nat×Nat×((Nat→Bool)→Value→World→Prop)},p∈T→q∈T→p.1=q.1∨p.2.1=q.2.1→p=q
 |_::_,⟨h1,h2⟩,p,q,hp,hq,he=>by
  rcases List.mem_cons.1 hp with rfl | hp' <;> rcases List.mem_cons.1 hq with rfl | hq'
  ·rfl
  ·rcases he with e | e
   ·exact absurd e.symm (h1 _ (List.mem_map_of_mem (f:=fun p=>(p.1,p.2.1)) hq')).1
   ·exact absurd e.symm (h1 _ (List.mem_map_of_mem (f:=fun p=>(p.1,p.2.1)) hq')).2
  ·rcases he with e | e
   ·exact absurd e (h1 _ (List.mem_map_of_mem (f:=fun p=>(p.1,p.2.1)) hp')).1
   ·exact absurd e (h1 _ (List.mem_map_of_mem (f:=fun p=>(p.1,p.2.1)) hp')).2
  ·exact jn h2 hp' hq' he
theorem gv.get {L:List (Nat×Value)} {T:PT} {S:Nat→Bool} {L':List (Nat×Value)} {w:World} {i d:Nat} {R:(Nat→Bool)→Value→World→Prop} (h:gv L T S L' w) (hp:(i,d,R)∈T) (hs:S i=true):∃ v,aM L' d=v∧R S v w:=⟨_,rfl,h.2.1 _ hp hs⟩
theorem jB {S:Nat→Bool} {i k:Nat} (h:ck S i k=false):S k=false:=by
 unfold ck at h;split at h
 ·cases h
 ·exact h
theorem ky {S:Nat→Bool} {i k:Nat} (hk:k≠i) (h:ck S i k=true):S k=true:=by
 unfold ck at h
 rwa [if_neg hk] at h
theorem kz (S:Nat→Bool) (i:Nat):ck S i i=true:=by unfold ck;rw [if_pos rfl]
theorem sS {S:Nat→Bool} {i k:Nat} (hk:k≠i):ck S i k=S k:=by unfold ck;rw [if_neg hk]
def jb (Mu:List Nat):PT→Prop
 |[]=>True
 |p::r=>(∀ S i v w1 w2,Mu.elem i=false→ai w1 w2→p.2.2 S v w1→p.2.2 (ck S i) v w2)∧jb Mu r
def ChP (i:Nat) (S:Nat→Bool) (w1 w2:World):PT→Prop
 |[]=>True
 |p::r=>(Nat.beq p.1 i=false→S p.1=true→∀ v,p.2.2 S v w1→p.2.2 (ck S i) v w2)∧ChP i S w1 w2 r
theorem ml {Mu:List Nat}:∀ {T:PT},jb Mu T→∀ p∈T,∀ S i v w1 w2,Mu.elem i=false→ai w1 w2→p.2.2 S v w1→p.2.2 (ck S i) v w2
 |_::_,⟨h1,h2⟩,p,hp=>by
  rcases List.mem_cons.1 hp with rfl | hp
  ·exact h1
  ·exact ml h2 p hp
theorem lP {i:Nat} {S:Nat→Bool} {w1 w2:World}:∀ {T:PT},ChP i S w1 w2 T→∀ p∈T,p.1≠i→S p.1=true→∀ v,p.2.2 S v w1→p.2.2 (ck S i) v w2
 |_::_,⟨h1,h2⟩,p,hp=>by
  rcases List.mem_cons.1 hp with rfl | hp
  ·exact fun hne=>h1 (by rw [p7];exact hne)
  ·exact lP h2 p hp
theorem gv.next {L:List (Nat×Value)} {T:PT} {S:Nat→Bool} {L':List (Nat×Value)} {w w':World} {i d:Nat} {v:Value} {R:(Nat→Bool)→Value→World→Prop} (h:gv L T S L' w) (hU:kC (T.map fun p=>(p.1,p.2.1))) (hp:(i,d,R)∈T) (hR:R (ck S i) v w')
 (hst:∀ p∈T,p.1≠i→S p.1=true→∀ v,p.2.2 S v w→p.2.2 (ck S i) v w'):gv L T (ck S i) ((d,v)::L') w':=by
 refine ⟨fun t ht=>?_,fun p hq hs=>?_,fun p hq hs=>?_⟩
 ·rw [aW,if_neg (fun e=>ht _ hp e.symm)];exact h.1 t ht
 ·rw [aW];by_cases e:p.2.1=d
  ·rw [if_pos e,jn hU hq hp (.inr e)];exact hR
  ·rw [if_neg e];have e2:p.1≠i:=fun e2=>e (congrArg (·.2.1) (jn hU hq hp (.inl e2)))
   have hs':=ky e2 hs;exact hst p hq e2 hs' _ (h.2.1 p hq hs')
 ·have hs':=jB hs;have e2:p.1≠i:=fun e2=>by rw [e2,kz] at hs;cases hs
  rw [aW,if_neg (fun e=>e2 (congrArg (·.1) (jn hU hq hp (.inr e))))];exact h.2.2 p hq hs'
theorem gv.same {L:List (Nat×Value)} {T:PT} {S:Nat→Bool} {L':List (Nat×Value)} {w w':World} {i:Nat} (h:gv L T S L' w) (hi:∀ p∈T,p.1≠i)
 (hst:∀ p∈T,p.1≠i→S p.1=true→∀ v,p.2.2 S v w→p.2.2 (ck S i) v w'):gv L T (ck S i) L' w':=by
 refine ⟨h.1,fun p hq hs=>?_,fun p hq hs=>h.2.2 p hq (jB hs)⟩;have hs':=ky (hi p hq) hs;exact hst p hq (hi p hq) hs' _ (h.2.1 p hq hs')
def mZ (L':List (Nat×Value)):List (Nat×Value)→Prop
 |[]=>True
 |(t,v)::r=>aM L' t=v∧mZ L' r
theorem k5 {L':List (Nat×Value)}:∀ {M:List (Nat×Value)},mZ L' M→∀ t,(M.map Prod.fst).elem t=true→aM M t=aM L' t
 |(k,v)::r,⟨h1,h2⟩,t,ht=>by
  rw [aW];by_cases e:t=k
  ·rw [if_pos e,e,h1]
  ·rw [if_neg e];refine k5 h2 t ?_;simpa [e] using ht
section
variable {P:Program} {Q:Exit→Act→World→Prop} {n:Fr} {L L' M:List (Nat×Value)} {w w' w'':World} {l:List Oper} {T:PT} {Mem:(Nat→Bool)→World→Prop} {Mu:List Nat} {S:Nat→Bool} {op:Op} {ty:TypeId} {pos:String} {after:Array Edge} {i d:Nat} {v:Value} {R:(Nat→Bool)→Value→World→Prop}
theorem gd {dst:Option Nat} (hs:bM op=false) (hk:(((⟨dst,op,ty,pos,after,none⟩:Oper).looksAt #[]).all fun t=>(M.map Prod.fst).elem t)=true) (hag:mZ L' M):execOp (ev n L') ⟨dst,op,ty,pos,after,none⟩=execOp (ev n M) ⟨dst,op,ty,pos,after,none⟩:=by
 have h:∀ t,((⟨dst,op,ty,pos,after,none⟩:Oper).looksAt #[]).elem t=true→aM M t=aM L' t:=fun t ht=>
  k5 hag t (List.all_eq_true.1 hk t (List.elem_iff.1 ht))
 exact (c6 (n:=n) (ops:=#[]) (o:=⟨dst,op,ty,pos,after,none⟩) hs h).1.symm
abbrev j4 (P:Program) (n:Fr) (L:List (Nat×Value)) (T:PT) (Mem:(Nat→Bool)→World→Prop) (S:Nat→Bool) (i:Nat) (o:Oper) (L':List (Nat×Value)) (w':World):Prop:=fR P n o (fun L2 w2=>gv L T (ck S i) L2 w2∧Mem (ck S i) w2) L' w'
theorem pY (hmo:jb Mu T) (hq:Mu.elem i=false) (hF:ai w' w''):∀ p∈T,p.1≠i→S p.1=true→∀ v,p.2.2 S v w'→p.2.2 (ck S i) v w'':=fun p hp _ _ v h=>ml hmo p hp S i v w' w'' hq hF h
theorem aO (M:List (Nat×Value)) (hU:kC (T.map fun p=>(p.1,p.2.1))) (hmo:jb Mu T) (hme:∀ S i w1 w2,Mu.elem i=false→ai w1 w2→Mem S w1→Mem (ck S i) w2) (hI:gv L T S L' w') (hM:Mem S w') (hp:(i,d,R)∈T) (hq:Mu.elem i=false)
 (hs:bM op=false) (hk:(((⟨some d,op,ty,pos,after,none⟩:Oper).looksAt #[]).all fun t=>(M.map Prod.fst).elem t)=true) (hag:mZ L' M) (hr:RO P (ev n M) op w' v w'') (hF:ai w' w'') (hR:R (ck S i) v w''):j4 P n L T Mem S i ⟨some d,op,ty,pos,after,none⟩ L' w':=
 .inl ⟨d,v,w'',rfl,by rw [gd hs hk hag];exact hr _ _ _ _ _,hI.next hU hp hR (pY hmo hq hF),hme S i _ _ hq hF hM⟩
theorem eL (M:List (Nat×Value)) {f:FuncId} {al:List Operand} {ats:Array TypeId} (hU:kC (T.map fun p=>(p.1,p.2.1))) (hmo:jb Mu T) (hme:∀ S i w1 w2,Mu.elem i=false→ai w1 w2→Mem S w1→Mem (ck S i) w2) (hI:gv L T S L' w') (hM:Mem S w') (hp:(i,d,R)∈T) (hq:Mu.elem i=false)
 (hk:(((⟨some d,.call { callee:=.value (.func f),args:=al.toArray,argTypes:=ats },ty,pos,after,none⟩:Oper).looksAt #[]).all fun t=>(M.map Prod.fst).elem t)=true) (hag:mZ L' M) (hf:aI P f=true) (hc:Rt P f (al.map (ev n M)) w' fun v w''=>ai w' w''∧R (ck S i) v w'') :
 j4 P n L T Mem S i ⟨some d,.call { callee:=.value (.func f),args:=al.toArray,argTypes:=ats },ty,pos,after,none⟩ L' w':=
 .inr (.inr ⟨d,f,al.map (ev n M),rfl,by rw [gd rfl hk hag,dU (fun _=>rfl),ed hf],Calls.mono hc fun e w2 ⟨v,he,hF,hR⟩=>⟨v,he,hI.next hU hp hR (pY hmo hq hF),hme S i _ _ hq hF hM⟩⟩)
theorem pD (M:List (Nat×Value)) (hU:kC (T.map fun p=>(p.1,p.2.1))) (hI:gv L T S L' w') (hp:(i,d,R)∈T)
 (hs:bM op=false) (hk:(((⟨some d,op,ty,pos,after,none⟩:Oper).looksAt #[]).all fun t=>(M.map Prod.fst).elem t)=true) (hag:mZ L' M) (hr:RO P (ev n M) op w' v w'') (hM:Mem (ck S i) w'') (hR:R (ck S i) v w'') (hC:ChP i S w' w'' T):j4 P n L T Mem S i ⟨some d,op,ty,pos,after,none⟩ L' w':=
 .inl ⟨d,v,w'',rfl,by rw [gd hs hk hag];exact hr _ _ _ _ _,hI.next hU hp hR (lP hC),hM⟩
theorem eM (M:List (Nat×Value)) {f:FuncId} {al:List Operand} {ats:Array TypeId} (hU:kC (T.map fun p=>(p.1,p.2.1))) (hI:gv L T S L' w') (hp:(i,d,R)∈T)
 (hk:(((⟨some d,.call { callee:=.value (.func f),args:=al.toArray,argTypes:=ats },ty,pos,after,none⟩:Oper).looksAt #[]).all fun t=>(M.map Prod.fst).elem t)=true) (hag:mZ L' M) (hf:aI P f=true) (hc:Rt P f (al.map (ev n M)) w' fun v w''=>Mem (ck S i) w''∧R (ck S i) v w''∧ChP i S w' w'' T) :
 j4 P n L T Mem S i ⟨some d,.call { callee:=.value (.func f),args:=al.toArray,argTypes:=ats },ty,pos,after,none⟩ L' w':=
 .inr (.inr ⟨d,f,al.map (ev n M),rfl,by rw [gd rfl hk hag,dU (fun _=>rfl),ed hf],Calls.mono hc fun e w2 ⟨v,he,hM,hR,hC⟩=>⟨v,he,hI.next hU hp hR (lP hC),hM⟩⟩)
theorem lX (M:List (Nat×Value)) (hI:gv L T S L' w') (hi:∀ p∈T,p.1≠i)
 (hs:bM op=false) (hk:(((⟨none,op,ty,pos,after,none⟩:Oper).looksAt #[]).all fun t=>(M.map Prod.fst).elem t)=true) (hag:mZ L' M) (hr:RS P (ev n M) op w' w'') (hM:Mem (ck S i) w'') (hC:ChP i S w' w'' T):j4 P n L T Mem S i ⟨none,op,ty,pos,after,none⟩ L' w':=
 .inr (.inl ⟨w'',rfl,by rw [gd hs hk hag];exact hr _ _ _ _ _,hI.same hi (lP hC),hM⟩)
def rV (S:Nat→Bool) (w:World):PT→(List (Nat×Value)→Prop)→Prop
 |[],K=>K []
 |p::r,K=>∀ v,p.2.2 S v w→rV S w r fun M=>K ((p.2.1,v)::M)
theorem eT {S:Nat→Bool} {w:World} {K:List (Nat×Value)→Prop} (h:K []):rV S w [] K:=h
theorem oB {S:Nat→Bool} {w:World} (ρ:Nat→Value):∀ (l:PT) {K:List (Nat×Value)→Prop},(∀ p∈l,p.2.2 S (ρ p.2.1) w)→rV S w l K→K (l.map fun p=>(p.2.1,ρ p.2.1))
 |[],_,_,h=>h
 |p::r,_,hr,h=>oB ρ r (fun e he=>hr e (List.mem_cons_of_mem _ he)) (h (ρ p.2.1) (hr p (List.mem_cons_self ..)))
theorem oY (ρ:Nat→Value) (T:PT) (L:List (Nat×Value)) (t:Nat):((∃ p∈T,p.2.1=t)∧aM (T.map (fun p=>(p.2.1,ρ p.2.1))++L) t=ρ t)∨((∀ p∈T,p.2.1≠t)∧aM (T.map (fun p=>(p.2.1,ρ p.2.1))++L) t=aM L t):=by
 induction T with
 |nil=>exact .inr ⟨fun p hp=>by simp at hp,rfl⟩
 |cons q r ih=>
  rw [List.map_cons,List.cons_append,aW];by_cases e:t=q.2.1
  ·rw [if_pos e,←e];exact .inl ⟨⟨q,.head _,e.symm⟩,rfl⟩
  ·rw [if_neg e];rcases ih with ⟨⟨p,hp,h1⟩,h2⟩ | ⟨h1,h2⟩
   ·exact .inl ⟨⟨p,.tail _ hp,h1⟩,h2⟩
   ·refine .inr ⟨fun p hp=>?_,h2⟩;rcases List.mem_cons.1 hp with rfl | hp2
    ·exact fun e2=>e e2.symm
    ·exact h1 p hp2
theorem eO {T:PT} {t:Nat} (h:(T.map fun p=>p.2.1).elem t=false):∀ p∈T,p.2.1≠t:=fun p hp e=>by
 have:t∈T.map fun p=>p.2.1:=List.mem_map.2 ⟨p,hp,e⟩
 rw [List.elem_eq_mem,decide_eq_false_iff_not] at h;exact h this
theorem s5 {T:PT} {i:Nat} (h:(T.map fun p=>p.1).elem i=false):∀ p∈T,p.1≠i:=fun p hp e=>by
 have:i∈T.map fun p=>p.1:=List.mem_map.2 ⟨p,hp,e⟩
 rw [List.elem_eq_mem,decide_eq_false_iff_not] at h;exact h this
theorem fR.mono {o:Oper} {I1 I2:List (Nat×Value)→World→Prop} (hi:∀ L2 w2,I1 L2 w2→I2 L2 w2) (h:fR P n o I1 L' w'):fR P n o I2 L' w':=by
 rcases h with ⟨d,v,w2,h1,h2,h3⟩ | ⟨w2,h1,h2,h3⟩ | ⟨d,f,args,h1,h2,h3⟩
 ·exact .inl ⟨d,v,w2,h1,h2,hi _ _ h3⟩
 ·exact .inr (.inl ⟨w2,h1,h2,hi _ _ h3⟩)
 ·exact .inr (.inr ⟨d,f,args,h1,h2,Calls.mono h3 fun e w2 ⟨v,he,h⟩=>⟨v,he,hi _ _ h⟩⟩)
def gK (l:List Oper) (S:Nat→Bool):Prop:=∀ j o,l[j]? =some o→S j=true→∀ e∈o.after,Region.binds .any e=true→S e.on=true
theorem ay {j i:Nat} {o:Oper} (hC:gK l S) (ho:l[j]? =some o) (he:(o.after.toList.any fun e=>Region.binds .any e&&Nat.beq e.on i)=true) (hS:S i=false):S j=false:=by
 rcases hj:S j with _ | _
 ·rfl
 ·obtain ⟨e,h1,h2⟩:=List.any_eq_true.1 he;rw [Bool.and_eq_true] at h2;have:=hC j o ho hj e (by simpa using h1) h2.1;rw [Nat.eq_of_beq_eq_true h2.2,hS] at this;cases this
theorem mJ {i:Nat} {o:Oper} (hC:gK l S) (ho:l[i]? =some o) (hE:∀ e∈o.after,Region.binds .any e=true→S e.on=true):gK l (ck S i):=fun j o' hj hs e he hb=>by
 have up:∀ k,S k=true→ck S i k=true:=fun k hk=>by
  unfold ck;split
  ·rfl
  ·exact hk
 by_cases hji:j=i
 ·subst hji;rw [ho] at hj;cases hj;exact up _ (hE e he hb)
 ·exact up _ (hC j o' hj (ky hji hs) e he hb)
def nH (P:Program) (n:Fr) (L:List (Nat×Value)) (T:PT) (Mu:List Nat) (Mem:(Nat→Bool)→World→Prop) (l:List Oper):Nat→List Oper→Prop
 |_,[]=>True
 |i,o::r=>(∀ S L' w',kC (T.map fun p=>(p.1,p.2.1))→jb Mu T→(∀ S i w1 w2,Mu.elem i=false→ai w1 w2→Mem S w1→Mem (ck S i) w2)→gv L T S L' w'→Mem S w'→gK l S→S i=false→fQ S o.after.toList→j4 P n L T Mem S i o L' w')∧nH P n L T Mu Mem l (i+1) r
theorem kK {L0:List (Nat×Value)} {l0:List Oper}:∀ {r:List Oper} {k:Nat},nH P n L0 T Mu Mem l0 k r→kC (T.map fun p=>(p.1,p.2.1))→jb Mu T→(∀ S i w1 w2,Mu.elem i=false→ai w1 w2→Mem S w1→Mem (ck S i) w2)→∀ (i:Nat) (o:Oper),r[i]? =some o→∀ S L' w',gv L0 T S L' w'→Mem S w'→gK l0 S→S (k+i)=false→fQ S o.after.toList→j4 P n L0 T Mem S (k+i) o L' w'
 |[],_,_,_,_,_,i,o,h=>by simp at h
 |x::r,k,⟨h1,h2⟩,a,b,c,0,o,h=>by
  simp only [List.getElem?_cons_zero,Option.some.injEq] at h;subst h;exact fun S L' w'=>h1 S L' w' a b c
 |x::r,k,⟨h1,h2⟩,a,b,c,i+1,o,h=>by
  have:=kK h2 a b c i o (by simpa using h)
  rwa [show k+1+i=k+(i+1) by omega] at this
theorem fL {id:Nat} (T:PT) (Mu:List Nat) (Mem:(Nat→Bool)→World→Prop) (hm:P.follows .mixedOrders=true) (hwf:lM l=true) (hlt:(T.all fun p=>Nat.blt p.1 l.length)=true) (hU:qK (T.map fun p=>(p.1,p.2.1))=true) (hmo:jb Mu T) (hme:∀ S i w1 w2,Mu.elem i=false→ai w1 w2→Mem S w1→Mem (ck S i) w2) (h0:Mem (fun _=>false) { w with drawn:=w.drawn+1 })
 (hstep:nH P n L T Mu Mem l 0 l) (hend:∀ w',Mem (fun i=>decide (i<l.length)) w'→rV (fun i=>decide (i<l.length)) w' T fun M=>Q .normal (mkA n (M++L)) w'):Cd P (.region id l.toArray true) Q n L w:=
 qA (fun S L' w'=>gv L T S L' w'∧Mem S w'∧gK l S) hm hwf ⟨⟨fun _ _=>rfl,fun _ _ h=>(by cases h),fun _ _ _=>rfl⟩,h0,fun _ _ _ h=>by cases h⟩ (fun i o S L' w' ho ⟨hI,hM,hC⟩ hS hE=>by
  have:=kK hstep (nV hU) hmo hme i o ho S L' w' hI hM hC (by rw [Nat.zero_add];exact hS) (jW fun e he=>hE e (by simpa using he));rw [Nat.zero_add] at this;exact fR.mono (fun L2 w2 h=>⟨h.1,h.2,mJ hC ho hE⟩) this) fun L' w' ⟨hI,hM,_⟩=>by
  have hlt':∀ p∈T,p.1<l.length:=fun p hp=>by
   have:=List.all_eq_true.1 hlt p hp;exact Nat.le_of_ble_eq_true this
  have h:=oB (aM L') T (fun p hp=>hI.2.1 p hp (decide_eq_true (hlt' p hp))) (hend w' hM)
  have e:mkA n L'=mkA n (T.map (fun p=>(p.2.1,aM L' p.2.1))++L):=by
   unfold mkA;rw [iI fun t _=>?_];rcases oY (aM L') T L t with ⟨_,h2⟩ | ⟨h1,h2⟩
   ·exact h2.symm
   ·rw [h2];exact hI.1 t h1
  rw [e];exact h
end
end Go.Proofs.YtdimnaiiaekngaaDoor
namespace Go.Proofs.YtdimnaiiaekngaaDoor
open Go.Proofs.Tryd (prog)
open Go.RowKit
open Go.ChangeShapes Go.WideShapes Go.ChangeAt
theorem cq:(cH prog 73).isSome=true:=by kernel_rfl
theorem mY:∀ (a0:ByteArray),prog.built 81 [(0,.string a0)]=some #[.string a0,.slice none 0 0,.slice none 0 0]:=by intros;kernel_rfl
theorem lj:aI prog 60=true:=by kernel_rfl
def ti (w:World) (f f2:Fl) (bs:List Nat):Prop:=f2.nm=f.nm∧f2.vs=f.vs++bs∧f2.ds=f.ds∧f2.dA=f.dA∧f2.dc=f.dc∧(∀ k,f2.B k→f.B k∨w.heap.size≤k)∧(f2.own=true→∀ k,f2.vA.map (·.block)=some k→(f.own=true∧f.vA.map (·.block)=some k)∨w.heap.size≤k)
def lU (w w':World) (g cp i:Nat) (fs:List Fl) (f:Fl) (bs:List Nat):Prop:=∃ f2:Fl,ti w f f2 bs∧Chg (fun k=>(some (⟨g,0,none⟩:Addr)).map (·.block)=some k∨(f.own=true∧f.vA.map (·.block)=some k)) w w'∧w'.ownsRow 0 81 3 (.slice (some ⟨g,0,none⟩) fs.length cp) fs.length ((fs.flatMap flV).set (i*3+1) (.slice f2.vA f2.vs.length f2.vc))∧ew w' f2
theorem lU.from_ {w w1 w2:World} {g cp i:Nat} {fs:List Fl} {f:Fl} {bs:List Nat} (h:lU w w1 g cp i fs f bs) (hF:ai w1 w2):lU w w2 g cp i fs f bs:=by
 obtain ⟨f2,h1,h2,h3,h4⟩:=h;exact ⟨f2,h1,h2.next hF.toChg,h3.kept_from hF,h4.from_ hF⟩
def Fn (nm:ByteArray):Fl:=⟨nm,none,0,none,0,[],[],true⟩
theorem RB.chg0 {V:Nat→Prop} {w w':World} {A:Option Addr} {c:Nat} {l:List Nat} (h:RB w A c l) (hc:Chg V w w') (hV:0<l.length→∀ q,A.map (·.block)=some q→¬ V q):RB w' A c l:=
 ⟨h.le,h.mx,fun h0=>(h.chg hc (hV h0)).at_ h0,h.bt⟩
def ji (D:List Fe) (fu:Nat) (off:Bool) (nm:ByteArray) (n:Nat):Int:=if bE (okN nm) fu off≠0 then bE (okN nm) fu off else if 1048576<n+(dI D nm).length then 2 else if eR D nm=false∧D.length=16 then 6 else 0
def j0 (D:List Fe) (fu:Nat) (off:Bool) (nm:ByteArray) (bs:List Nat):List Fe:=if ji D fu off nm bs.length=0 then oS (if eR D nm then D else eX D (nm,[],[])) nm (dI D nm++bs) else D
theorem rE {fs:List Fl} (h:fs.Pairwise Sep) (i:Nat) (nm:ByteArray):(fs.take i++Fn nm::fs.drop i).Pairwise Sep:=by
 have hs:∀ g:Fl,Sep g (Fn nm):=fun g=>⟨fun _ k _ hb=>(by rcases hb with e | e <;> cases e),fun _ k hk=>(by cases hk)⟩
 have h0:(fs.take i++fs.drop i).Pairwise Sep:=by rw [List.take_append_drop];exact h
 rw [List.pairwise_append] at h0 ⊢;refine ⟨h0.1,List.pairwise_cons.2 ⟨fun g _=>(hs g).symm,h0.2.1⟩,fun a ha b hb=>?_⟩;rcases List.mem_cons.1 hb with rfl | hb
 ·exact hs a
 ·exact h0.2.2 a ha b hb
theorem sA {fs:List Fl} {i:Nat} (hi:i≤fs.length) (x:Fl):∃ h:i<(fs.take i++x::fs.drop i).length,(fs.take i++x::fs.drop i)[i]=x:=by
 have hl:(fs.take i).length=i:=by rw [List.length_take];omega
 have h:i<(fs.take i++x::fs.drop i).length:=by rw [List.length_append,List.length_cons,hl];omega
 refine ⟨h,?_⟩;rw [List.getElem_append_right (by omega)];simp only [hl,Nat.sub_self,List.getElem_cons_zero]
theorem DOk.ins {D:List Fe} (h:DOk D) {id:ByteArray} (hn:eR D id=false) (hl:D.length≠16):DOk (eX D (id,[],[])):=by
 refine ⟨h.1.ins (fun e he h9=>by have:=fx.2 ⟨e,he,h9⟩;rw [hn] at this;cases this) [] [],by rw [mz];have:=h.2.1;omega,fun e he=>?_⟩;rcases my.1 he with rfl | he
 ·exact ⟨Nat.zero_le _,Nat.zero_le _⟩
 ·exact h.2.2 e he
theorem o7 (U:Nat→Prop) (d:Nat) (D:List Fe) (fu:Nat) (off:Bool) (w:World) (hd:cR w U d D fu off) (nm:ByteArray) (hn:nm.size≤140737488351232) (A2:Option Addr) (c2 m:Nat) (bs:List Nat) (hb:RB w A2 c2 bs) (hm:m=bs.length) (hbl:bs.length≤140737488355328) (hU2:0<bs.length→∀ q,A2.map (·.block)=some q→¬ U q) :
 Rt prog 51 [.pointer (some ⟨d,0,none⟩),.string nm,.slice A2 m c2] w (fun v w'=>v=.int .i64 (ji D fu off nm bs.length)∧cR w' (Nx U w w') d (j0 D fu off nm bs) (fuB (okN nm) fu) (gV (okN nm) fu off)∧Chg U w w'):=by
 subst hm;have hd0:=hd;obtain ⟨fs,Ap,cp,ca,h,hD,hok,hfu0,hU⟩:=hd;subst hD;obtain ⟨hs,hl,hz⟩:=hok;rw [aK] at hl;refine enter (n:=80) Tryd.func51 rfl rfl rfl (ag (ab (asi rfl (ah (ae (ag (ag (ab (mvp rfl (mvg rfl (jq (v:=.string _) cB rfl rfl rfl ?_)))))))))));intro b13 w1 E13 hb13 hk13;have hF11:ai w _:=(ai.rfl_.next E13);refine av kq (o6 (h.from_ (ai.rfl_.next E13)) hs hl hfu0 hn hk13) ?_;rintro v14 w2 ⟨rfl,⟨ca2,h2⟩,hC11⟩;have hT:=(hF11.toChg (U:=U)).next (hC11.wide fun k hk=>.inl (by rw [hk];exact hU d (.inl rfl)));have hb2:=(hb.from_ hF11).chg0 hC11 (fun h0 q hq e=>hU2 h0 q hq (hU q (by rw [e];exact .inl rfl)));refine asi rfl (ah (ae (ag (ab (mvi rfl (aa (cc rfl rfl) (ah (ae (s_ rfl (fun Q3=>?_) (fun Q3=>?_))))))))))
 ·refine ag (ab (mvi rfl (asi rfl (ah (ae (aw (aD (bb (v:=.int _ _) rfl rfl ?_))))))));have e1:ji (aN fs) fu off nm bs.length=bE (okN nm) fu off:=by unfold ji;rw [if_pos (by assumption)]
  rw [e1];refine ⟨rfl,?_,hT.next (ai.rfl_).toChg⟩;rw [show j0 (aN fs) fu off nm bs=aN fs by unfold j0;rw [e1,if_neg (by first | decide | assumption)]];exact cW hU (h2.from_ ai.rfl_) ⟨hs,by rw [aK];exact hl,hz⟩ (cA hfu0 _) fun k hk=>.inl hk
 refine aC (ae (ag (ab (mvp rfl (mvg rfl (av eV (il d fs Ap cp ca2 _ _ _ (h2.from_ ai.rfl_) hs hl (cA hfu0 _) nm) ?_))))));rintro v21 w4 ⟨⟨i,fd,rfl,hf⟩,E21⟩;refine mvt rfl (aa (ax rfl rfl) (aa (ax rfl rfl) (asi rfl (asb rfl (ah (ae (ag (ab (mvs rfl (aa (bC cq rfl) (asi rfl ?_)))))))))));refine ah (ae (jZ (G:=Unit) [26,27,28,29,30,31,32,33,34,35,36,37,38] (fun _=>[(10,.int .i64 ((bs.length+(dI (aN fs) nm).length:Nat):Int))]) (fun _ w'=>w4=w') ?_ ?_))
 ·refine ag (ab (mvb rfl (ah (ae (aJ rfl (fun Q5=>?_) (fun Q5=>?_))))))
  ·have hfd:fd=true:=by first | assumption | simp_all
   obtain ⟨hi,hi2⟩:=hf.2.1 hfd;have hia:i<(aN fs).length:=by rw [aK];exact hi
   have hk1:(aN fs)[i].1=nm:=by rw [a_];exact hi2
   have hzi:=hz _ (List.getElem_mem hia);rw [a_] at hzi;have hz1:fs[i].vs.length≤1048576:=hzi.1;have hgv:dI (aN fs) nm=fs[i].vs:=by rw [gE hs hia hk1,a_];rfl
   obtain ⟨g,rfl⟩:=iE h2.row (by omega);obtain ⟨bp,op,e9,hcd⟩:=(iX h2.row).2 (by omega);cases e9;have hce:=hcd i hi;refine ab (mvi rfl (mvp rfl (aa (az rfl) (aa (af bc rfl) (aa (ao cj rfl (by exact (h2.blk.from_ (ai.rfl_.next E21)).rd 0 rfl)) ?_)))));refine mvi rfl (aa (aV aZ rfl rfl (by omega)) (aa (af bS rfl) (aa (af bT rfl) ?_)));refine aa (ao bg rfl (by have h9:=hce 1 _ rfl;simpa [Nat.add_assoc] using eA (ai.rfl_.next E21) h9)) ?_;refine aa (bC cq rfl) (aa (bz rfl rfl (by omega)) (asi rfl (ah ?_)));refine cd (()) ⟨(by rw [hgv];rfl),trivial⟩ (by (iterate 14 refine bm rfl ?_);exact bO) ?_;rfl
  have hfd:fd=false:=by first | assumption | simp_all
  have hno:eR (aN fs) nm=false:=by rw [hf.has hs,hfd]
  have hno2:∀ e∈aN fs,e.1≠nm:=fun e he h9=>by have:=fx.2 ⟨e,he,h9⟩;rw [hno] at this;cases this
  have hgv:dI (aN fs) nm=[]:=oi hno2;have hile:i≤fs.length:=by have:=hf.1.le;rwa [aK] at this
  refine aC ?_;refine cd (()) ⟨(by rw [hgv];rfl),trivial⟩ (by (iterate 1 refine bm rfl ?_);exact bO) ?_;rfl
 rintro _ ρ6 w6 rfl;refine ag (ag (ab (mvi rfl (aa (cm rfl rfl) (ah (ae (tc rfl (fun Q7=>?_) (fun Q7=>?_))))))))
 ·refine ag (ab (asi rfl (ah (ae (aw (aD (bb (v:=.int _ _) rfl rfl ?_)))))));have e1:ji (aN fs) fu off nm bs.length=2:=by unfold ji;rw [if_neg (by omega),if_pos (by omega)]
  rw [e1];refine ⟨rfl,?_,hT.next ((ai.rfl_.next E21)).toChg⟩;rw [show j0 (aN fs) fu off nm bs=aN fs by unfold j0;rw [e1,if_neg (by first | decide | assumption)]];exact cW hU (h2.from_ (ai.rfl_.next E21)) ⟨hs,by rw [aK];exact hl,hz⟩ (cA hfu0 _) fun k hk=>.inl hk
 refine aC (ae (jZ (G:=List Fl×Option Addr×Nat) [6,41,42,43,44,45,46,47,48,49,50,51,52,53,54,55,56,57,58,59,60] (fun _=>[]) (fun (fs3,Ap3,cp3) w'=>DkH w' d fs3 Ap3 cp3 ca2 (fuB (okN nm) fu) (gV (okN nm) fu off)∧aN fs3=(if eR (aN fs) nm then aN fs else eX (aN fs) (nm,[],[]))∧DOk (aN fs3)∧(∃ hi3:i<fs3.length,fs3[i].nm=nm∧fs3[i].vs=dI (aN fs) nm)∧(∀ k,iC d Ap3 fs3 k→iC d Ap fs k∨w.heap.size≤k)∧(eR (aN fs) nm=false→(aN fs).length≠16)∧RB w' A2 c2 bs∧Chg U w w') ?_ ?_))
 ·refine ag (ab (mvb rfl (aa (bl rfl) (ah (ae (ta rfl (fun Q8=>?_) (fun Q8=>?_)))))))
  ·have hfd:fd=false:=by first | assumption | simp_all
   have hno:eR (aN fs) nm=false:=by rw [hf.has hs,hfd]
   have hno2:∀ e∈aN fs,e.1≠nm:=fun e he h9=>by have:=fx.2 ⟨e,he,h9⟩;rw [hno] at this;cases this
   have hgv:dI (aN fs) nm=[]:=oi hno2;have hile:i≤fs.length:=by have:=hf.1.le;rwa [aK] at this
   refine ag (ag (ab (mvp rfl (aa (az rfl) (aa (af bc rfl) (aa (ao cj rfl (by exact (h2.blk.from_ (ai.rfl_.next E21)).rd 0 rfl)) ?_))))));refine aa (bC c_ rfl) (aa (br rfl rfl) (ah (ae (tc rfl (fun Q9=>?_) (fun Q9=>?_)))))
   ·refine ag (ab (asi rfl (ah (ae (aw (aD (aD (bb (v:=.int _ _) rfl rfl ?_))))))));have e1:ji (aN fs) fu off nm bs.length=6:=by unfold ji;rw [if_neg (by omega),if_neg (by omega),if_pos ⟨hno,by rw [aK];omega⟩]
    rw [e1];refine ⟨rfl,?_,hT.next ((ai.rfl_.next E21)).toChg⟩;rw [show j0 (aN fs) fu off nm bs=aN fs by unfold j0;rw [e1,if_neg (by first | decide | assumption)]];exact cW hU (h2.from_ (ai.rfl_.next E21)) ⟨hs,by rw [aK];exact hl,hz⟩ (cA hfu0 _) fun k hk=>.inl hk
   refine aC (ae (ab (mvp rfl (mvp rfl (aa (az rfl) (aa (af bc rfl) (aa (ao cj rfl (by exact (h2.blk.from_ (ai.rfl_.next E21)).rd 0 rfl)) ?_)))))));refine mvi rfl (mvg rfl (aa (bW (l:=[(0,.tmp 55)]) (mY _)) ?_));have hF58b:ai _ w4:=(ai.rfl_.next E21);refine lq (l:=[(0,.tmp 56)]) (cells:=#[.string nm,.slice none 0 0,.slice none 0 0]) cY rfl rfl (by kernel_rfl) ?_;intro b57 w10 E57 hb57 hk57;have hF58:ai _ w10:=((ai.rfl_.next E21).next E57);refine av lj (jT 0 Ap cp fs.length i 1 b57 0 1 (fs.flatMap flV) (flV (Fn nm)) _ _ _ (h2.row.kept_from hF58) (Nat.zero_le _) hile (by decide) rfl hk57.whole hk57 (fun k hk e=>by have:=(er (h2.row.kept_from hF58b) k hk).2;omega) (lJ _) (gb _) (by omega)) ?_;rintro v58 w11 ⟨⟨A58,c58,rfl,ho58,hA58⟩,hg58⟩;have hb58:=(h2.blk.from_ hF58).grown hg58 (cF (h2.row.kept_from hF58) (h2.blk.from_ hF58) (by decide));rw [r5] at ho58;refine aa (az rfl) (aa (af bc rfl) (fg (v:=.slice _ _ _) eU rfl rfl rfl (hb58) (by show 0<4;decide) ?_));intro w12 O13 P13;refine ah ?_;refine cd ((fs.take i++Fn nm::fs.drop i,A58,c58)) trivial (by (iterate 20 refine bm rfl ?_);exact bO) ?_;obtain ⟨hi9,hx9⟩:=sA hile (Fn nm);have hC9:Chg (fun k=>k=d∨Ap.map (·.block)=some k) _ w12:=(hF58.toChg.next (Chg.of_grown hg58 fun k e=>.inr e)).next (O13.toChg (.inl rfl));have hr:=fv ho58 O13 (cF ho58 hb58 (by decide));rw [←rF hile (Fn nm)] at hr
   have hk:=h2.setR (ca':=ca2) (fu':=fuB (okN nm) fu) (off':=gV (okN nm) fu off) hC9 (by rw [rF hile];exact P13) hr (fun f hf9=>by
    rcases List.mem_append.1 hf9 with h9 | h9
    ·exact .inl (List.mem_of_mem_take h9)
    ·rcases List.mem_cons.1 h9 with rfl | h9
     ·exact .inr (.inr ⟨rfl,rfl,rfl,rfl,rfl,rfl,rfl⟩)
     ·exact .inl (List.mem_of_mem_drop h9)) (rE h2.ap i nm)
   have hab:aN (fs.take i++Fn nm::fs.drop i)=eX (aN fs) (nm,[],[]):=by rw [mO,hf.1.ins];rfl
   have hne16:(aN fs).length≠16:=by rw [aK];omega
   refine ⟨hk,by rw [hab,hno];rfl,by rw [hab];exact DOk.ins ⟨hs,by rw [aK];exact hl,hz⟩ hno hne16,⟨hi9,by rw [hx9];rfl,by rw [hx9,hgv];rfl⟩,fun k hk=>?_,fun _=>hne16,?_,hT.next (hC9.wide fun k hk=>.inl (hU k (hk.elim .inl fun e=>.inr (.inl e))))⟩
   ·rcases hk with e | e | ⟨f3,h3,e⟩
    ·exact .inl (.inl e)
    ·exact (hA58 k e).imp (fun e=>.inr (.inl e)) fun e=>Nat.le_trans (Nat.le_trans hT.size hF58.size) e
    ·rcases List.mem_append.1 h3 with h9 | h9
     ·exact .inl (.inr (.inr ⟨f3,List.mem_of_mem_take h9,e⟩))
     ·rcases List.mem_cons.1 h9 with rfl | h9
      ·rcases e with e | e <;> cases e
      ·exact .inl (.inr (.inr ⟨f3,List.mem_of_mem_drop h9,e⟩))
   ·exact hb2.chg0 hC9 fun h0 q hq e=>hU2 h0 q hq (hU q (e.elim .inl fun e=>.inr (.inl e)))
  have hfd:fd=true:=by first | assumption | simp_all
  obtain ⟨hi,hi2⟩:=hf.2.1 hfd;have hia:i<(aN fs).length:=by rw [aK];exact hi
  have hk1:(aN fs)[i].1=nm:=by rw [a_];exact hi2
  have hzi:=hz _ (List.getElem_mem hia);rw [a_] at hzi;have hz1:fs[i].vs.length≤1048576:=hzi.1;have hgv:dI (aN fs) nm=fs[i].vs:=by rw [gE hs hia hk1,a_];rfl
  refine aC ?_;refine cd ((fs,Ap,cp)) trivial (by (iterate 2 refine bm rfl ?_);exact bO) ?_;exact ⟨h2.from_ (ai.rfl_.next E21),by rw [hf.has hs,hfd];rfl,⟨hs,by rw [aK];exact hl,hz⟩,⟨hi,hi2,hgv.symm⟩,fun k hk=>.inl hk,fun h9=>(by rw [hf.has hs,hfd] at h9;cases h9),hb2.from_ (ai.rfl_.next E21),hT.next ((ai.rfl_.next E21)).toChg⟩
 rintro ⟨fs3,Ap3,cp3⟩ ρ13 w13 ⟨h3,hab3,hok3,⟨hi3,hn3,hv3⟩,hft3,hcap3,hb3,hT3⟩;obtain ⟨g,rfl⟩:=iE h3.row (by omega);obtain ⟨bp3,op3,e93,hcd3⟩:=(iX h3.row).2 (by omega);cases e93;have hce3:=hcd3 i hi3;have hfi3:=h3.ok _ (List.getElem_mem hi3);have hg3:=(er h3.row g rfl).2;have hia3:i<(aN fs3).length:=by rw [aK];exact hi3
 have hk13:(aN fs3)[i].1=nm:=by rw [a_];exact hn3
 have hl3:fs3.length≤16:=by rw [←aK];exact hok3.2.1
 refine ag ?_;apply fL [(0,61,fun _ v _=>v=_),(1,62,fun _ v _=>v=_),(2,63,fun _ v _=>v=_),(3,64,fun _ v _=>v=_),(4,65,fun _ v _=>v=_),(5,66,fun _ v _=>v=_),(6,67,fun _ v _=>v=_),(7,68,fun _ v _=>v=_),(8,69,fun _ v _=>v=_),(9,70,fun _ v _=>v=_),(10,71,fun _ v _=>v=_),(11,72,fun _ v _=>v=_),(12,73,fun _ v _=>v=_),(13,74,fun _ v _=>v=_),(14,75,fun _ v _=>v=_),(15,76,fun S v w'=>∃ f2:Fl,v=.slice f2.vA f2.vs.length f2.vc∧ti w13 fs3[i] f2 bs∧(S 19=false→ew w' f2)),(16,77,fun _ v _=>v=_),(17,78,fun _ v _=>v=_),(18,79,fun _ v _=>v=_)] [15,19] (fun S w'=>w13.heap.size≤w'.heap.size∧(S 15=false→ai w13 w')∧(S 19=false→Chg (fun k=>fs3[i].own=true∧fs3[i].vA.map (·.block)=some k) w13 w')∧(S 19=true→lU w13 w' g cp3 i fs3 fs3[i] bs)) (by kernel_rfl) (by kernel_rfl) rfl rfl ⟨fun _ _ _ _ _ _ _ h=>h,fun _ _ _ _ _ _ _ h=>h,fun _ _ _ _ _ _ _ h=>h,fun _ _ _ _ _ _ _ h=>h,fun _ _ _ _ _ _ _ h=>h,fun _ _ _ _ _ _ _ h=>h,fun _ _ _ _ _ _ _ h=>h,fun _ _ _ _ _ _ _ h=>h,fun _ _ _ _ _ _ _ h=>h,fun _ _ _ _ _ _ _ h=>h,fun _ _ _ _ _ _ _ h=>h,fun _ _ _ _ _ _ _ h=>h,fun _ _ _ _ _ _ _ h=>h,fun _ _ _ _ _ _ _ h=>h,fun _ _ _ _ _ _ _ h=>h,fun S i v w1 w2 hq hF ⟨f2,h1,h2,h3⟩=>⟨f2,h1,h2,fun h0=>(h3 (jB h0)).from_ hF⟩,fun _ _ _ _ _ _ _ h=>h,fun _ _ _ _ _ _ _ h=>h,fun _ _ _ _ _ _ _ h=>h,trivial⟩ (fun S i w1 w2 hq hF h=>⟨Nat.le_trans h.1 hF.size,fun h0=>(h.2.1 (jB h0)).next hF,fun h0=>(h.2.2.1 (jB h0)).next hF.toChg,fun h1=>(h.2.2.2 (ky (show 19≠i by rintro rfl;exact absurd hq (by decide)) h1)).from_ hF⟩) (⟨Nat.le_refl _,fun _=>ai.rfl_.d1,fun _=>ai.rfl_.d1.toChg,fun h1=>by cases h1⟩)
 case hstep=>
  constructor
  ·rintro S L' w14 hU hmo hme hI hM hC hS ⟨-⟩;have hM':=hM;obtain ⟨hz14,hA14,hB14,hD14⟩:=hM';have e0:=hI.1 0 (eO rfl);exact aO [(0,_)] hU hmo hme hI hM (.head _) rfl rfl (by kernel_rfl) ⟨e0,trivial⟩ (aB (v:=.pointer _) rfl) ai.rfl_ rfl
  constructor
  ·rintro S L' w15 hU hmo hme hI hM hC hS ⟨d0,-⟩;have hM':=hM;obtain ⟨hz15,hA15,hB15,hD15⟩:=hM';obtain ⟨v15_61,e61,h61⟩:=hI.get (i:=0) (.head _) d0;obtain rfl:=h61;exact aO [(61,_)] hU hmo hme hI hM (.tail _ (.head _)) rfl rfl (by kernel_rfl) ⟨e61,trivial⟩ (az rfl) ai.rfl_ rfl
  constructor
  ·rintro S L' w16 hU hmo hme hI hM hC hS ⟨d1,-⟩;have hM':=hM;obtain ⟨hz16,hA16,hB16,hD16⟩:=hM';obtain ⟨v16_62,e62,h62⟩:=hI.get (i:=1) (.tail _ (.head _)) d1;obtain rfl:=h62;exact aO [(62,_)] hU hmo hme hI hM (.tail _ (.tail _ (.head _))) rfl rfl (by kernel_rfl) ⟨e62,trivial⟩ (af bc rfl) ai.rfl_ rfl
  constructor
  ·rintro S L' w17 hU hmo hme hI hM hC hS ⟨d2,-⟩;have hM':=hM;obtain ⟨hz17,hA17,hB17,hD17⟩:=hM';obtain ⟨v17_63,e63,h63⟩:=hI.get (i:=2) (.tail _ (.tail _ (.head _))) d2;obtain rfl:=h63;exact aO [(63,_)] hU hmo hme hI hM (.tail _ (.tail _ (.tail _ (.head _)))) rfl rfl (by kernel_rfl) ⟨e63,trivial⟩ (ao cj rfl ((h3.blk.chg (hB17 (ay hC (j:=19) rfl (by kernel_rfl) hS)) (fun e=>h3.bd (List.getElem_mem hi3) (.inl e.2) rfl)).rd 0 rfl)) (ai.rfl_) (rfl)
  constructor
  ·rintro S L' w18 hU hmo hme hI hM hC hS ⟨-⟩;have hM':=hM;obtain ⟨hz18,hA18,hB18,hD18⟩:=hM';have e8:=hI.1 8 (eO rfl);exact aO [(8,_)] hU hmo hme hI hM (.tail _ (.tail _ (.tail _ (.tail _ (.head _))))) rfl rfl (by kernel_rfl) ⟨e8,trivial⟩ (aB (v:=.int _ _) rfl) ai.rfl_ rfl
  constructor
  ·rintro S L' w19 hU hmo hme hI hM hC hS ⟨-⟩;have hM':=hM;obtain ⟨hz19,hA19,hB19,hD19⟩:=hM';have e0:=hI.1 0 (eO rfl);exact aO [(0,_)] hU hmo hme hI hM (.tail _ (.tail _ (.tail _ (.tail _ (.tail _ (.head _)))))) rfl rfl (by kernel_rfl) ⟨e0,trivial⟩ (aB (v:=.pointer _) rfl) ai.rfl_ rfl
  constructor
  ·rintro S L' w20 hU hmo hme hI hM hC hS ⟨d5,-⟩;have hM':=hM;obtain ⟨hz20,hA20,hB20,hD20⟩:=hM';obtain ⟨v20_66,e66,h66⟩:=hI.get (i:=5) (.tail _ (.tail _ (.tail _ (.tail _ (.tail _ (.head _)))))) d5;obtain rfl:=h66;exact aO [(66,_)] hU hmo hme hI hM (.tail _ (.tail _ (.tail _ (.tail _ (.tail _ (.tail _ (.head _))))))) rfl rfl (by kernel_rfl) ⟨e66,trivial⟩ (az rfl) ai.rfl_ rfl
  constructor
  ·rintro S L' w21 hU hmo hme hI hM hC hS ⟨d6,-⟩;have hM':=hM;obtain ⟨hz21,hA21,hB21,hD21⟩:=hM';obtain ⟨v21_67,e67,h67⟩:=hI.get (i:=6) (.tail _ (.tail _ (.tail _ (.tail _ (.tail _ (.tail _ (.head _))))))) d6;obtain rfl:=h67;exact aO [(67,_)] hU hmo hme hI hM (.tail _ (.tail _ (.tail _ (.tail _ (.tail _ (.tail _ (.tail _ (.head _)))))))) rfl rfl (by kernel_rfl) ⟨e67,trivial⟩ (af bc rfl) ai.rfl_ rfl
  constructor
  ·rintro S L' w22 hU hmo hme hI hM hC hS ⟨d7,-⟩;have hM':=hM;obtain ⟨hz22,hA22,hB22,hD22⟩:=hM';obtain ⟨v22_68,e68,h68⟩:=hI.get (i:=7) (.tail _ (.tail _ (.tail _ (.tail _ (.tail _ (.tail _ (.tail _ (.head _)))))))) d7;obtain rfl:=h68;exact aO [(68,_)] hU hmo hme hI hM (.tail _ (.tail _ (.tail _ (.tail _ (.tail _ (.tail _ (.tail _ (.tail _ (.head _))))))))) rfl rfl (by kernel_rfl) ⟨e68,trivial⟩ (ao cj rfl ((h3.blk.chg (hB22 (ay hC (j:=19) rfl (by kernel_rfl) hS)) (fun e=>h3.bd (List.getElem_mem hi3) (.inl e.2) rfl)).rd 0 rfl)) (ai.rfl_) (rfl)
  constructor
  ·rintro S L' w23 hU hmo hme hI hM hC hS ⟨-⟩;have hM':=hM;obtain ⟨hz23,hA23,hB23,hD23⟩:=hM';have e8:=hI.1 8 (eO rfl);exact aO [(8,_)] hU hmo hme hI hM (.tail _ (.tail _ (.tail _ (.tail _ (.tail _ (.tail _ (.tail _ (.tail _ (.tail _ (.head _)))))))))) rfl rfl (by kernel_rfl) ⟨e8,trivial⟩ (aB (v:=.int _ _) rfl) ai.rfl_ rfl
  constructor
  ·rintro S L' w24 hU hmo hme hI hM hC hS ⟨d8,d9,-⟩;have hM':=hM;obtain ⟨hz24,hA24,hB24,hD24⟩:=hM';obtain ⟨v24_69,e69,h69⟩:=hI.get (i:=8) (.tail _ (.tail _ (.tail _ (.tail _ (.tail _ (.tail _ (.tail _ (.tail _ (.head _))))))))) d8;obtain rfl:=h69;obtain ⟨v24_70,e70,h70⟩:=hI.get (i:=9) (.tail _ (.tail _ (.tail _ (.tail _ (.tail _ (.tail _ (.tail _ (.tail _ (.tail _ (.head _)))))))))) d9;obtain rfl:=h70;exact aO [(69,_),(70,_)] hU hmo hme hI hM (.tail _ (.tail _ (.tail _ (.tail _ (.tail _ (.tail _ (.tail _ (.tail _ (.tail _ (.tail _ (.head _))))))))))) rfl rfl (by kernel_rfl) ⟨e69,e70,trivial⟩ (aV aZ rfl rfl (by omega)) ai.rfl_ rfl
  constructor
  ·rintro S L' w25 hU hmo hme hI hM hC hS ⟨d10,-⟩;have hM':=hM;obtain ⟨hz25,hA25,hB25,hD25⟩:=hM';obtain ⟨v25_71,e71,h71⟩:=hI.get (i:=10) (.tail _ (.tail _ (.tail _ (.tail _ (.tail _ (.tail _ (.tail _ (.tail _ (.tail _ (.tail _ (.head _))))))))))) d10;obtain rfl:=h71;exact aO [(71,_)] hU hmo hme hI hM (.tail _ (.tail _ (.tail _ (.tail _ (.tail _ (.tail _ (.tail _ (.tail _ (.tail _ (.tail _ (.tail _ (.head _)))))))))))) rfl rfl (by kernel_rfl) ⟨e71,trivial⟩ (af bS rfl) ai.rfl_ rfl
  constructor
  ·rintro S L' w26 hU hmo hme hI hM hC hS ⟨d11,-⟩;have hM':=hM;obtain ⟨hz26,hA26,hB26,hD26⟩:=hM';obtain ⟨v26_72,e72,h72⟩:=hI.get (i:=11) (.tail _ (.tail _ (.tail _ (.tail _ (.tail _ (.tail _ (.tail _ (.tail _ (.tail _ (.tail _ (.tail _ (.head _)))))))))))) d11;obtain rfl:=h72;exact aO [(72,_)] hU hmo hme hI hM (.tail _ (.tail _ (.tail _ (.tail _ (.tail _ (.tail _ (.tail _ (.tail _ (.tail _ (.tail _ (.tail _ (.tail _ (.head _))))))))))))) rfl rfl (by kernel_rfl) ⟨e72,trivial⟩ (af bT rfl) ai.rfl_ rfl
  constructor
  ·rintro S L' w27 hU hmo hme hI hM hC hS ⟨d12,-⟩;have hM':=hM;obtain ⟨hz27,hA27,hB27,hD27⟩:=hM';obtain ⟨v27_73,e73,h73⟩:=hI.get (i:=12) (.tail _ (.tail _ (.tail _ (.tail _ (.tail _ (.tail _ (.tail _ (.tail _ (.tail _ (.tail _ (.tail _ (.tail _ (.head _))))))))))))) d12;obtain rfl:=h73;exact aO [(73,_)] hU hmo hme hI hM (.tail _ (.tail _ (.tail _ (.tail _ (.tail _ (.tail _ (.tail _ (.tail _ (.tail _ (.tail _ (.tail _ (.tail _ (.tail _ (.head _)))))))))))))) rfl rfl (by kernel_rfl) ⟨e73,trivial⟩ (ao (v:=.slice fs3[i].vA fs3[i].vs.length fs3[i].vc) bg rfl (by have h9:=eA (hA27 (ay hC (j:=15) rfl (by kernel_rfl) hS)) (hce3 1 _ rfl);simpa [Nat.add_assoc] using h9)) (ai.rfl_) (rfl)
  constructor
  ·rintro S L' w28 hU hmo hme hI hM hC hS ⟨-⟩;have hM':=hM;obtain ⟨hz28,hA28,hB28,hD28⟩:=hM';have e2:=hI.1 2 (eO rfl);exact aO [(2,_)] hU hmo hme hI hM (.tail _ (.tail _ (.tail _ (.tail _ (.tail _ (.tail _ (.tail _ (.tail _ (.tail _ (.tail _ (.tail _ (.tail _ (.tail _ (.tail _ (.head _))))))))))))))) rfl rfl (by kernel_rfl) ⟨e2,trivial⟩ (aB (v:=.slice _ _ _) rfl) ai.rfl_ rfl
  constructor
  ·rintro S L' w29 hU hmo hme hI hM hC hS ⟨d13,d14,-⟩;have hM':=hM;obtain ⟨hz29,hA29,hB29,hD29⟩:=hM';obtain ⟨v29_74,e74,h74⟩:=hI.get (i:=13) (.tail _ (.tail _ (.tail _ (.tail _ (.tail _ (.tail _ (.tail _ (.tail _ (.tail _ (.tail _ (.tail _ (.tail _ (.tail _ (.head _)))))))))))))) d13;obtain rfl:=h74;obtain ⟨v29_75,e75,h75⟩:=hI.get (i:=14) (.tail _ (.tail _ (.tail _ (.tail _ (.tail _ (.tail _ (.tail _ (.tail _ (.tail _ (.tail _ (.tail _ (.tail _ (.tail _ (.tail _ (.head _))))))))))))))) d14;obtain rfl:=h75;have hF9:=hA29 hS;have hs9:=hF9.size;obtain ⟨f2,w2,hR,h1,h2,h3,h4,h5,h6,h7,h8,h9⟩:=o8 (ρ:=ev 80 [(74,_),(75,_)]) (s:=.tmp 74) (x:=.tmp 75) (f:=fs3[i]) (A2:=A2) (c2:=c2) (bs:=bs) (hfi3.from_ hF9) rfl rfl (hb3.from_ hF9) (by rw [hv3];omega);exact pD [(74,_),(75,_)] hU hI (.tail _ (.tail _ (.tail _ (.tail _ (.tail _ (.tail _ (.tail _ (.tail _ (.tail _ (.tail _ (.tail _ (.tail _ (.tail _ (.tail _ (.tail _ (.head _)))))))))))))))) rfl (by kernel_rfl) ⟨e74,e75,trivial⟩ hR ⟨Nat.le_trans hz29 h6.size,fun h0=>(by rw [kz] at h0;cases h0),fun _=>hF9.toChg.next h6,fun h0=>(by rw [sS (by decide),ay hC (j:=19) rfl (by kernel_rfl) hS] at h0;cases h0)⟩ ⟨f2,rfl,⟨h1,h2,h3,h4,h5,fun k hk=>(h8 k hk).imp (fun e=>e) fun e=>Nat.le_trans hs9 e,fun ho k hk=>(h9 ho k hk).imp (fun e=>e) fun e=>Nat.le_trans hs9 e⟩,fun _=>h7⟩ ⟨fun _ _ _ h=>h,fun _ _ _ h=>h,fun _ _ _ h=>h,fun _ _ _ h=>h,fun _ _ _ h=>h,fun _ _ _ h=>h,fun _ _ _ h=>h,fun _ _ _ h=>h,fun _ _ _ h=>h,fun _ _ _ h=>h,fun _ _ _ h=>h,fun _ _ _ h=>h,fun _ _ _ h=>h,fun _ _ _ h=>h,fun _ _ _ h=>h,(fun h=>by cases h),fun _ _ _ h=>h,fun _ _ _ h=>h,fun _ _ _ h=>h,trivial⟩
  constructor
  ·rintro S L' w30 hU hmo hme hI hM hC hS ⟨d3,d4,d0,d1,d2,d3,d4,d5,d6,d7,d8,d9,d10,d11,d12,d13,d14,d15,-⟩;have hM':=hM;obtain ⟨hz30,hA30,hB30,hD30⟩:=hM';obtain ⟨v30_64,e64,h64⟩:=hI.get (i:=3) (.tail _ (.tail _ (.tail _ (.head _)))) d3;obtain rfl:=h64;obtain ⟨v30_65,e65,h65⟩:=hI.get (i:=4) (.tail _ (.tail _ (.tail _ (.tail _ (.head _))))) d4;obtain rfl:=h65;exact aO [(64,_),(65,_)] hU hmo hme hI hM (.tail _ (.tail _ (.tail _ (.tail _ (.tail _ (.tail _ (.tail _ (.tail _ (.tail _ (.tail _ (.tail _ (.tail _ (.tail _ (.tail _ (.tail _ (.tail _ (.head _))))))))))))))))) rfl rfl (by kernel_rfl) ⟨e64,e65,trivial⟩ (aV aZ rfl rfl (by omega)) ai.rfl_ rfl
  constructor
  ·rintro S L' w31 hU hmo hme hI hM hC hS ⟨d16,d0,d1,d2,d3,d4,d5,d6,d7,d8,d9,d10,d11,d12,d13,d14,d15,-⟩;have hM':=hM;obtain ⟨hz31,hA31,hB31,hD31⟩:=hM';obtain ⟨v31_77,e77,h77⟩:=hI.get (i:=16) (.tail _ (.tail _ (.tail _ (.tail _ (.tail _ (.tail _ (.tail _ (.tail _ (.tail _ (.tail _ (.tail _ (.tail _ (.tail _ (.tail _ (.tail _ (.tail _ (.head _))))))))))))))))) d16;obtain rfl:=h77;exact aO [(77,_)] hU hmo hme hI hM (.tail _ (.tail _ (.tail _ (.tail _ (.tail _ (.tail _ (.tail _ (.tail _ (.tail _ (.tail _ (.tail _ (.tail _ (.tail _ (.tail _ (.tail _ (.tail _ (.tail _ (.head _)))))))))))))))))) rfl rfl (by kernel_rfl) ⟨e77,trivial⟩ (af bS rfl) ai.rfl_ rfl
  constructor
  ·rintro S L' w32 hU hmo hme hI hM hC hS ⟨d17,d0,d1,d2,d3,d4,d5,d6,d7,d8,d9,d10,d11,d12,d13,d14,d15,-⟩;have hM':=hM;obtain ⟨hz32,hA32,hB32,hD32⟩:=hM';obtain ⟨v32_78,e78,h78⟩:=hI.get (i:=17) (.tail _ (.tail _ (.tail _ (.tail _ (.tail _ (.tail _ (.tail _ (.tail _ (.tail _ (.tail _ (.tail _ (.tail _ (.tail _ (.tail _ (.tail _ (.tail _ (.tail _ (.head _)))))))))))))))))) d17;obtain rfl:=h78;exact aO [(78,_)] hU hmo hme hI hM (.tail _ (.tail _ (.tail _ (.tail _ (.tail _ (.tail _ (.tail _ (.tail _ (.tail _ (.tail _ (.tail _ (.tail _ (.tail _ (.tail _ (.tail _ (.tail _ (.tail _ (.tail _ (.head _))))))))))))))))))) rfl rfl (by kernel_rfl) ⟨e78,trivial⟩ (af bT rfl) ai.rfl_ rfl
  constructor
  ·rintro S L' w33 hU hmo hme hI hM hC hS ⟨d18,d15,d15,d0,d1,d2,d3,d4,d5,d6,d7,d8,d9,d10,d11,d12,d13,d14,d15,-⟩;have hM':=hM;obtain ⟨hz33,hA33,hB33,hD33⟩:=hM';obtain ⟨v33_76,e76,h76⟩:=hI.get (i:=15) (.tail _ (.tail _ (.tail _ (.tail _ (.tail _ (.tail _ (.tail _ (.tail _ (.tail _ (.tail _ (.tail _ (.tail _ (.tail _ (.tail _ (.tail _ (.head _)))))))))))))))) d15;obtain ⟨f2,rfl,hq2,hq3⟩:=h76;obtain ⟨v33_79,e79,h79⟩:=hI.get (i:=18) (.tail _ (.tail _ (.tail _ (.tail _ (.tail _ (.tail _ (.tail _ (.tail _ (.tail _ (.tail _ (.tail _ (.tail _ (.tail _ (.tail _ (.tail _ (.tail _ (.tail _ (.tail _ (.head _))))))))))))))))))) d18;obtain rfl:=h79;have hCh:=hB33 hS;have s15:S 15=true:=d15;have hrow:=ic h3.row hCh (fun q hq e=>h3.bp (List.getElem_mem hi3) (.inl e.2) hq);have hco:=hrow.cellAt (i*3+1) (by omega);have hlF:=ik eE fs3;rw [List.getElem?_eq_getElem (by omega)] at hco;have hO:=b_.setCell w33 g (i*3+1) (.slice f2.vA f2.vs.length f2.vc);have hg9:g<w33.heap.size:=Nat.lt_of_lt_of_le hg3 hz33
   have hfo:ew _ f2:=(hq3 hS).chg (hO.toChg (U:=fun k=>k=g) rfl) fun q hq e=>by
    rcases hq2.2.2.2.2.2.1 q hq with e2 | e2
    ·exact h3.bp (List.getElem_mem hi3) e2 (by rw [e];rfl)
    ·omega
   exact lX [(76,_),(79,_)] hI (s5 rfl) rfl (by kernel_rfl) ⟨e76,e79,trivial⟩ (hH (v:=.slice f2.vA f2.vs.length f2.vc) km (by show Value.pointer (some ⟨g,0+i*3+1+0,none⟩)=Value.pointer (some ⟨g,i*3+1,none⟩);rw [Nat.zero_add]) rfl rfl hco (hrow.frozenAt _)) ⟨Nat.le_trans hz33 (Nat.le_of_eq hO.size.symm),fun h0=>(by rw [sS (by decide),s15] at h0;cases h0),fun h0=>(by rw [kz] at h0;cases h0),fun _=>⟨f2,hq2,(hCh.wide fun k hk=>.inl (.inr hk)).next (hO.toChg (.inl rfl)),(hrow.stored _ _).1,hfo⟩⟩ ⟨fun _ _ _ h=>h,fun _ _ _ h=>h,fun _ _ _ h=>h,fun _ _ _ h=>h,fun _ _ _ h=>h,fun _ _ _ h=>h,fun _ _ _ h=>h,fun _ _ _ h=>h,fun _ _ _ h=>h,fun _ _ _ h=>h,fun _ _ _ h=>h,fun _ _ _ h=>h,fun _ _ _ h=>h,fun _ _ _ h=>h,fun _ _ _ h=>h,fun _ _ _ ⟨f3,h1,h2,h3⟩=>⟨f3,h1,h2,fun h0=>(by rw [kz] at h0;cases h0)⟩,fun _ _ _ h=>h,fun _ _ _ h=>h,fun _ _ _ h=>h,trivial⟩
  exact trivial
 case hend=>
  intro w34 hM;obtain ⟨hz34,hA34,hB34,hD34⟩:=hM;rintro v34_61 rfl v34_62 rfl v34_63 rfl v34_64 rfl v34_65 rfl v34_66 rfl v34_67 rfl v34_68 rfl v34_69 rfl v34_70 rfl v34_71 rfl v34_72 rfl v34_73 rfl v34_74 rfl v34_75 rfl v34_76 ⟨f2,rfl,hq2,hq3⟩ v34_77 rfl v34_78 rfl v34_79 rfl;refine eT ?_;obtain ⟨f3,⟨hq1,hq2v,hq3d,hq4,hq5,hq7,hq8⟩,hCC,hP,hfo⟩:=hD34 rfl;refine ae (ag (ab (asi rfl (ah (ae (aw (bb (v:=.int _ _) rfl rfl ?_)))))));rw [l5 eE fs3 i 1 hi3 (by decide) f3 (.slice f3.vA f3.vs.length f3.vc) (by unfold flV;rw [hq1,hq3d,hq4,hq5];rfl)] at hP;have hk:=(h3.put hi3 (f':=f3) hCC hP hfo hq7 hq8).from_ ai.rfl_;have hCC:=hCC.next (ai.rfl_).toChg;have hs3:=hok3.1;have hz3:=hok3.2.2 _ (List.getElem_mem hia3);rw [a_] at hz3
  have hD:aN (fs3.set i f3)=oS (aN fs3) nm (dI (aN fs) nm++bs):=by
   rw [iv,ri hs3 hia3 hk13,a_];unfold Fl.abs;rw [hq1,hq2v,hq3d,hn3,hv3]
  have e1:ji (aN fs) fu off nm bs.length=0:=by
   unfold ji;rw [if_neg (by omega),if_neg (by omega),if_neg (fun h9=>hcap3 h9.1 h9.2)]
  rw [e1];have hvl:f3.vs.length≤1048576:=by rw [hq2v,hv3,List.length_append];omega
  have hT4:Chg U w w34:=hT3.trans hCC fun k hk=>by
   rcases hk with e | e
   ·exact (hft3 k (.inr (.inl e))).imp (hU k) fun e=>e
   ·exact (hft3 k (.inr (.inr ⟨_,List.getElem_mem hi3,.inl e.2⟩))).imp (hU k) fun e=>e
  refine ⟨rfl,?_,hT4⟩;rw [show j0 (aN fs) fu off nm bs=aN (fs3.set i f3) by unfold j0;rw [e1,if_pos rfl,hD,hab3]];refine cW hU hk (DOk.set hok3 hs3 hi3 f3 hq1 hvl (by rw [hq3d];exact hz3.2)) (cA hfu0 _) fun k hk=>?_
  have hsz:=hT3.size;rcases hk with e | e | ⟨f3,h4,e⟩
  ·exact hft3 k (.inl e)
  ·exact hft3 k (.inr (.inl e))
  ·rcases List.mem_or_eq_of_mem_set h4 with h4 | h4
   ·exact hft3 k (.inr (.inr ⟨f3,h4,e⟩))
   ·rw [h4] at e;rcases hq7 k e with e2 | e2
    ·exact hft3 k (.inr (.inr ⟨_,List.getElem_mem hi3,e2⟩))
    ·exact .inr (Nat.le_trans hsz e2)
end Go.Proofs.YtdimnaiiaekngaaDoor
